package move_test

import (
	"math/rand"
	"slices"
	"testing"

	"marchland/api"
	"marchland/move"
	"marchland/plain"
	"marchland/world"
)

const noWay = 1 << 20

// onto is chapter 3's Step, worked out anew: by ground, for who goes and for who flies.
var onto = map[bool][4]int{false: {1, noWay, noWay, 2}, true: {1, noWay, 1, 1}}

// around are the cells beside one, worked out anew: up, left, right, down.
func around(f api.Field, at int) (l []int) {
	if at >= f.Wide {
		l = append(l, at-f.Wide)
	}
	if at%f.Wide > 0 {
		l = append(l, at-1)
	}
	if at%f.Wide < f.Wide-1 {
		l = append(l, at+1)
	}
	if at+f.Wide < f.Wide*f.High {
		l = append(l, at+f.Wide)
	}
	return l
}

// apart tells how far each cell is from one, noWay or more where it is not reached: it is asked again and again until nothing gets nearer.
func apart(f api.Field, to int, flies bool) []int {
	far := slices.Repeat([]int{noWay}, len(f.Ground))
	far[to] = 0
	for again := true; again; {
		again = false
		for a := range far {
			for _, b := range around(f, a) {
				if d := far[b] + onto[flies][f.Ground[b]]; d < far[a] {
					far[a], again = d, true
				}
			}
		}
	}
	return far
}

// ways are apart to each cell of a field, for who goes and for who flies.
type ways map[bool][][]int

func waysOf(f api.Field) ways {
	d := ways{}
	for to := range f.Ground {
		d[false] = append(d[false], apart(f, to, false))
		d[true] = append(d[true], apart(f, to, true))
	}
	return d
}

// towards is the next cell on a way; the cell itself, if there is none.
func (d ways) towards(f api.Field, from, to int, flies bool) int {
	far := d[flies][to]
	if from != to && far[from] < noWay {
		for _, b := range around(f, from) {
			if onto[flies][f.Ground[b]]+far[b] == far[from] {
				return b
			}
		}
	}
	return from
}

// wantWish is V1, worked out anew; and of what sort the unit was.
func (d ways) wantWish(k []api.Kind, w api.World, i int) (int, string) {
	u := w.Units[i]
	flies := k[u.Kind].Flies
	if u.Task == api.Rest {
		return u.At, "rests"
	}
	if u.Task == api.March || u.Load < k[u.Kind].Carry && w.Field.Ore[u.Goal] > 0 {
		return d.towards(w.Field, u.At, u.Goal, flies), []string{"", "marches", "gathers"}[u.Task]
	}
	best, least := u.At, noWay
	for j := len(w.Units) - 1; j >= 0; j-- {
		h := w.Units[j]
		if far := d[flies][h.At][u.At]; h.Player == u.Player && k[h.Kind].Trains && far < noWay && far <= least {
			best, least = h.At, far
		}
	}
	if least == noWay {
		return u.At, "has no home"
	}
	return d.towards(w.Field, u.At, best, flies), "goes home"
}

// wantMove is V2, worked out anew: each unit tries four times, as often as the greatest Speed may let it go.
func (d ways) wantMove(k []api.Kind, w api.World) (api.World, []api.Event) {
	w = copied(w)
	var events []api.Event
	for i := range w.Units {
		left := k[w.Units[i].Kind].Speed
		for range 4 {
			at, _ := d.wantWish(k, w, i)
			free := true
			for _, u := range w.Units {
				free = free && u.At != at
			}
			if step := onto[k[w.Units[i].Kind].Flies][w.Field.Ground[at]]; free && step <= left {
				left -= step
				w.Units[i].At = at
				events = append(events, api.Event{What: 1, Unit: w.Units[i].Id, Arg: at})
			}
		}
		if u := w.Units[i]; u.Task == 1 && u.At == u.Goal {
			w.Units[i].Task, w.Units[i].Goal = 0, 0
		}
	}
	return w, events
}

// drawnField has so many sides, and grounds of which some come more often.
func drawnField(r *rand.Rand, wide, high int) api.Field {
	f := api.Field{Wide: wide, High: high}
	mix := [][]int{{0, 3}, {0, 0, 3, 1}, {0, 1, 2, 3}, {0, 0, 0, 2, 3, 3}, {0}}[r.Intn(5)]
	for range wide * high {
		ground, ore := mix[r.Intn(len(mix))], 0
		if ground == api.Plain && r.Intn(3) == 0 {
			ore = 1 + r.Intn(60)
		}
		f.Ground, f.Ore = append(f.Ground, ground), append(f.Ore, ore)
	}
	return f
}

// drawnWorld is right: what is drawn for a unit's cell, and is wrong, is left out.
func drawnWorld(r *rand.Rand, k []api.Kind) api.World {
	wide, high := 1+r.Intn(6), 1+r.Intn(6)
	if r.Intn(40) == 0 {
		wide, high = 12, 12
	}
	w, _ := world.New(k, drawnField(r, wide, high), 1+r.Intn(3), r.Intn(50))
	cells := wide * high
	for range 1 + r.Intn(min(2*cells, 40)) {
		if r.Intn(5) == 0 {
			w.Next++
		}
		more, err := world.Place(k, w, r.Intn(len(w.Gold)), r.Intn(len(k)), r.Intn(cells))
		if err != nil {
			continue
		}
		w = more
		u := &w.Units[len(w.Units)-1]
		carry := k[u.Kind].Carry
		u.Load = []int{0, carry, r.Intn(carry + 1)}[r.Intn(3)]
		u.Task = r.Intn(3)
		if u.Task != api.Rest {
			u.Goal = r.Intn(cells)
		}
	}
	return w
}

// TestDrawn: V1, V2, drawn worlds, always the same ones, turn by turn, and all their units.
func TestDrawn(t *testing.T) {
	r := rand.New(rand.NewSource(8))
	seen := map[string]int{}
	for range 1500 {
		k := sorts()
		for i := range k {
			k[i].Speed, k[i].Flies, k[i].Trains = r.Intn(5), r.Intn(3) == 0, r.Intn(3) == 0
		}
		w := drawnWorld(r, k)
		d := waysOf(w.Field)
		for range 3 {
			for i := range w.Units {
				want, sort := d.wantWish(k, w, i)
				if got, err := move.Wish(k, w, i); got != want || err != nil {
					t.Fatalf("%v, %v: Wish of %d: got %d, %v; want %d", k, w, i, got, err, want)
				}
				seen[sort]++
			}
			want, told := d.wantMove(k, w)
			got, events, err := move.Move(k, w)
			if !alike(got, want) || !slices.Equal(events, told) || err != nil {
				t.Fatalf("%v, %v: got %v, %v, %v; want %v, %v", k, w, got, events, err, want, told)
			}
			if err := world.Check(k, got); err != nil {
				t.Fatalf("%v, %v: Check says %v of %v", k, w, err, got)
			}
			seen["goes"] += len(events)
			w = got
		}
	}
	for _, sort := range []string{"rests", "marches", "gathers", "has no home", "goes home", "goes"} {
		if seen[sort] < 500 {
			t.Errorf("one that %s was drawn %d times alone", sort, seen[sort])
		}
	}
}

// TestDrawnWrong: V1, V2 and P1, worlds of which some numbers are drawn: Check's error, ahead of all, and no panic.
func TestDrawnWrong(t *testing.T) {
	r := rand.New(rand.NewSource(18))
	seen := map[api.Errno]int{}
	for range 20000 {
		w := few(t)
		l := []*int{&w.Turn, &w.Next, &w.Field.Wide, &w.Field.High, &w.Gold[0], &w.Field.Ground[r.Intn(12)], &w.Field.Ore[r.Intn(12)]}
		for i := range w.Units {
			u := &w.Units[i]
			l = append(l, &u.Id, &u.Player, &u.Kind, &u.At, &u.Life, &u.Load, &u.Task, &u.Goal)
		}
		for range 1 + r.Intn(3) {
			n := l[r.Intn(len(l))]
			*n = []int{*n - 1, *n + 1, r.Intn(14) - 1, r.Intn(4), -*n, *n + 1<<32, 1 << 62, -1 << 63}[r.Intn(8)]
		}
		want := plain.Told(world.Check(sorts(), w))
		got, events, err := move.Move(sorts(), w)
		if plain.Told(err) != want || want != api.OK && (!alike(got, api.World{}) || events != nil) {
			t.Fatalf("%v: got %v, %v, %v; want %v", w, got, events, err, want)
		}
		i := r.Intn(7) - 1
		at, err := move.Wish(sorts(), w, i)
		if want == api.OK && (i < 0 || i > 4) {
			want = api.ErrNone
		}
		if plain.Told(err) != want || want != api.OK && at != 0 {
			t.Fatalf("%v: Wish of %d: got %d, %v; want %v", w, i, at, err, want)
		}
		seen[want]++
	}
	for _, e := range []api.Errno{api.OK, api.ErrRange, api.ErrShape, api.ErrOrder, api.ErrNone, api.ErrState} {
		if seen[e] < 100 {
			t.Errorf("%v was drawn %d times alone", e, seen[e])
		}
	}
}
