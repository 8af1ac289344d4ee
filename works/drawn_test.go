package works_test

import (
	"math/rand"
	"slices"
	"testing"

	"marchland/api"
	"marchland/plain"
	"marchland/works"
	"marchland/world"
)

// isBeside tells, by columns and rows, whether two cells are.
func isBeside(f api.Field, a, b int) bool {
	x, y := a%f.Wide-b%f.Wide, a/f.Wide-b/f.Wide
	return x*x+y*y == 1
}

// wantDig is D1, worked out anew: ore is taken piece by piece.
func wantDig(k []api.Kind, w api.World) (api.World, []api.Event) {
	w = copied(w)
	var events []api.Event
	for i, u := range w.Units {
		n := 0
		for n < 10 && u.Task == 2 && u.Goal == u.At && w.Field.Ore[u.At] > 0 && u.Load < k[u.Kind].Carry {
			n++
			u.Load++
			w.Field.Ore[u.At]--
		}
		if n > 0 {
			events = append(events, api.Event{What: 4, Unit: u.Id, Arg: n})
		}
		w.Units[i] = u
	}
	for i, u := range w.Units {
		for _, h := range w.Units {
			if u.Load > 0 && isBeside(w.Field, u.At, h.At) && h.Player == u.Player && k[h.Kind].Trains {
				events = append(events, api.Event{What: 5, Unit: u.Id, Arg: u.Load})
				for ; u.Load > 0; u.Load-- {
					if w.Gold[u.Player] < 1000000 {
						w.Gold[u.Player]++
					}
				}
			}
		}
		w.Units[i] = u
	}
	return w, events
}

// onto is chapter 3's Step, worked out anew: by ground, for who goes and for who flies; 99: there is none.
func onto(ground int, flies bool) int {
	if flies {
		return [4]int{1, 99, 1, 1}[ground]
	}
	return [4]int{1, 99, 99, 2}[ground]
}

// away tells how far a cell is, by trying all ways of at most most; 99: farther.
func away(f api.Field, from, to, most int, flies bool) int {
	if from == to {
		return 0
	}
	least := 99
	for at, ground := range f.Ground {
		if step := onto(ground, flies); step <= most && isBeside(f, from, at) {
			least = min(least, step+away(f, at, to, most-step, flies))
		}
	}
	return least
}

// wantSpot is D2, worked out anew; -1: there is none.
func wantSpot(k []api.Kind, w api.World, from, kind int) int {
	best, least := -1, 4
	for at := range w.Field.Ground {
		free := true
		for _, u := range w.Units {
			free = free && u.At != at
		}
		if free {
			if far := away(w.Field, from, at, 3, k[kind].Flies); far < least {
				best, least = at, far
			}
		}
	}
	return best
}

// wantTrain is D2, worked out anew: a job is the first of its unit if none ahead of it has that unit.
func wantTrain(k []api.Kind, w api.World) (api.World, []api.Event, map[string]int) {
	w = copied(w)
	seen := map[string]int{}
	var events []api.Event
	var left []api.Job
	for i, j := range w.Queue {
		if slices.ContainsFunc(w.Queue[:i], func(o api.Job) bool { return o.Unit == j.Unit }) {
			seen["behind another one"]++
			left = append(left, j)
			continue
		}
		if j.Left > 1 {
			seen["more than one turn"]++
			left = append(left, api.Job{Player: j.Player, Unit: j.Unit, Kind: j.Kind, Left: j.Left - 1})
			continue
		}
		at := wantSpot(k, w, w.Units[world.Find(w, j.Unit)].At, j.Kind)
		switch {
		case len(w.Units) == 40:
			seen["too many units"]++
			left = append(left, j)
		case w.Next == 1000000:
			seen["no id"]++
			left = append(left, j)
		case at < 0:
			seen["no Spot"]++
			left = append(left, j)
		default:
			seen["comes"]++
			w.Units = append(w.Units, api.Unit{Id: w.Next, Player: j.Player, Kind: j.Kind, At: at, Life: k[j.Kind].Life})
			events = append(events, api.Event{What: 6, Unit: w.Next, Arg: at})
			w.Next++
		}
	}
	w.Queue = left
	return w, events, seen
}

func drawnField(r *rand.Rand, wide, high int) api.Field {
	f := api.Field{Wide: wide, High: high}
	mix := [][]int{{0, 3}, {0, 0, 3, 1}, {0, 1, 2, 3}, {0, 0, 0, 2, 3, 3}, {0}}[r.Intn(5)]
	for range wide * high {
		ground, ore := mix[r.Intn(len(mix))], 0
		if ground == api.Plain && r.Intn(2) == 0 {
			ore = 1 + r.Intn(30)
		}
		f.Ground, f.Ore = append(f.Ground, ground), append(f.Ore, ore)
	}
	return f
}

// drawnWorld is right: what is drawn for a unit's cell, and is wrong, is left out.
func drawnWorld(r *rand.Rand, k []api.Kind) api.World {
	wide, high, many := 1+r.Intn(5), 1+r.Intn(5), 1+r.Intn(30)
	if r.Intn(10) == 0 {
		wide, high, many = 7, 7, 200
	}
	w, _ := world.New(k, drawnField(r, wide, high), 1+r.Intn(3), []int{0, 50, api.MaxNumber - 8}[r.Intn(3)])
	for range many {
		more, err := world.Place(k, w, r.Intn(len(w.Gold)), r.Intn(len(k)), r.Intn(wide*high))
		if err != nil {
			continue
		}
		w = more
		u := &w.Units[len(w.Units)-1]
		u.Load, u.Task = []int{0, 0, r.Intn(k[u.Kind].Carry + 1)}[r.Intn(3)], r.Intn(3)
		if u.Task != api.Rest {
			u.Goal = []int{u.At, r.Intn(wide * high)}[r.Intn(2)]
		}
	}
	if r.Intn(10) == 0 {
		w.Next = api.MaxNumber - r.Intn(2)
	}
	if len(w.Units) > 0 {
		w.Queue = drawnJobs(r, k, w)
	}
	return w
}

func drawnJobs(r *rand.Rand, k []api.Kind, w api.World) (l []api.Job) {
	for range r.Intn(13) {
		if u := w.Units[r.Intn(len(w.Units))]; k[u.Kind].Trains {
			l = append(l, api.Job{Player: u.Player, Unit: u.Id, Kind: r.Intn(len(k)), Left: 1 + r.Intn(3)})
		}
	}
	return l
}

// wealth is what ore, loads and gold are together.
func wealth(w api.World) (sum int) {
	for _, n := range w.Field.Ore {
		sum += n
	}
	for _, n := range w.Gold {
		sum += n
	}
	for _, u := range w.Units {
		sum += u.Load
	}
	return sum
}

// TestDrawn: D1, D2, drawn worlds, always the same ones, turn by turn: as the chapter has it; they stay right, and nothing comes of nothing.
func TestDrawn(t *testing.T) {
	r := rand.New(rand.NewSource(9))
	seen := map[string]int{}
	for range 1200 {
		k := sorts()
		for i := range k {
			k[i].Flies, k[i].Trains, k[i].Carry = r.Intn(3) == 0, r.Intn(3) == 0, r.Intn(30)
		}
		w := drawnWorld(r, k)
		for range 3 {
			holdSpots(t, k, w, seen)
			want, told := wantDig(k, w)
			got, events, err := works.Dig(k, w)
			if !alike(got, want) || !slices.Equal(events, told) || err != nil || wealth(got) > wealth(w) {
				t.Fatalf("%v, %v: Dig: got %v, %v, %v; want %v, %v", k, w, got, events, err, want, told)
			}
			right(t, k, got)
			for _, e := range events {
				seen[[]string{"takes", "brings"}[e.What-4]]++
			}
			want, told, jobs := wantTrain(k, got)
			w, events, err = works.Train(k, got)
			if !alike(w, want) || !slices.Equal(events, told) || err != nil || wealth(w) != wealth(got) {
				t.Fatalf("%v, %v: Train: got %v, %v, %v; want %v, %v", k, got, w, events, err, want, told)
			}
			right(t, k, w)
			for sort, n := range jobs {
				seen[sort] += n
			}
		}
	}
	for _, sort := range []string{"takes", "brings", "a Spot", "no Spot at all", "comes", "behind another one", "more than one turn", "too many units", "no id", "no Spot"} {
		if seen[sort] < 100 {
			t.Errorf("%s: drawn %d times alone", sort, seen[sort])
		}
	}
}

func holdSpots(t *testing.T, k []api.Kind, w api.World, seen map[string]int) {
	for i, u := range w.Units {
		for kind := i % 4; kind < len(k); kind += 4 {
			want, told, sort := wantSpot(k, w, u.At, kind), api.OK, "a Spot"
			if want < 0 {
				want, told, sort = 0, api.ErrNone, "no Spot at all"
			}
			if got, err := works.Spot(k, w, u.Id, kind); got != want || plain.Told(err) != told {
				t.Fatalf("%v, %v: Spot of %d, %d: got %d, %v; want %d", k, w, u.Id, kind, got, err, want)
			}
			seen[sort]++
		}
	}
}

// TestDrawnWrong: D1, D2 and P1, worlds of which some numbers are drawn: Check's error, ahead of all, and no panic.
func TestDrawnWrong(t *testing.T) {
	r := rand.New(rand.NewSource(19))
	seen := map[api.Errno]int{}
	for range 20000 {
		w := few(t)
		l := []*int{&w.Turn, &w.Next, &w.Field.Wide, &w.Field.High, &w.Gold[0], &w.Field.Ground[r.Intn(12)], &w.Field.Ore[r.Intn(12)]}
		for i := range w.Units {
			u := &w.Units[i]
			l = append(l, &u.Id, &u.Player, &u.Kind, &u.At, &u.Life, &u.Load, &u.Task, &u.Goal)
		}
		for i := range w.Queue {
			j := &w.Queue[i]
			l = append(l, &j.Player, &j.Unit, &j.Kind, &j.Left)
		}
		for range 1 + r.Intn(3) {
			n := l[r.Intn(len(l))]
			*n = []int{*n - 1, *n + 1, r.Intn(14) - 1, r.Intn(4), -*n, *n + 1<<32, 1 << 62, -1 << 63}[r.Intn(8)]
		}
		want := plain.Told(world.Check(sorts(), w))
		got, events, err := works.Dig(sorts(), w)
		if plain.Told(err) != want || want != api.OK && (!alike(got, api.World{}) || events != nil) {
			t.Fatalf("%v: Dig: got %v, %v, %v; want %v", w, got, events, err, want)
		}
		got, events, err = works.Train(sorts(), w)
		if plain.Told(err) != want || want != api.OK && (!alike(got, api.World{}) || events != nil) {
			t.Fatalf("%v: Train: got %v, %v, %v; want %v", w, got, events, err, want)
		}
		kind := r.Intn(10) - 1
		if want == api.OK && (kind < 0 || kind > 7) {
			want = api.ErrRange
		}
		id := idOf(0)
		if len(w.Units) > 0 {
			id = w.Units[r.Intn(5)].Id
		}
		if at, err := works.Spot(sorts(), w, id, kind); want != api.OK && (plain.Told(err) != want || at != 0) {
			t.Fatalf("%v: Spot of %d, %d: got %d, %v; want %v", w, id, kind, at, err, want)
		}
		seen[want]++
	}
	for _, e := range []api.Errno{api.OK, api.ErrRange, api.ErrShape, api.ErrOrder, api.ErrNone, api.ErrState} {
		if seen[e] < 100 {
			t.Errorf("%v was drawn %d times alone", e, seen[e])
		}
	}
}
