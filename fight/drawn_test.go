package fight_test

import (
	"math/rand"
	"slices"
	"testing"

	"marchland/api"
	"marchland/fight"
	"marchland/plain"
	"marchland/world"
)

// within tells, by columns and rows, whether a place is no further than most: rounded down, its square is below that of one more.
func within(f api.Field, a, b, most int) bool {
	x, y := a%f.Wide-b%f.Wide, a/f.Wide-b/f.Wide
	return x*x+y*y < (most+1)*(most+1)
}

// wantTarget is B1, worked out anew: by growing rings, in each by growing Life, in the order of the units. It tells too by what it chose.
func wantTarget(k []api.Kind, w api.World, i int) (int, string) {
	u := w.Units[i]
	if k[u.Kind].Hit == 0 {
		return -1, "no Hit"
	}
	for ring := range k[u.Kind].Range + 1 {
		best, alike, unlike := -1, false, false
		for o, other := range w.Units {
			if other.Player == u.Player || !within(w.Field, u.At, other.At, ring) {
				continue
			}
			switch {
			case best < 0:
				best = o
			case other.Life < w.Units[best].Life:
				best, alike, unlike = o, false, true
			case other.Life == w.Units[best].Life:
				alike = true
			default:
				unlike = true
			}
		}
		switch {
		case best < 0:
		case alike:
			return best, "the first of alike ones"
		case unlike:
			return best, "the least Life"
		default:
			return best, "the nearest"
		}
	}
	return -1, "nobody near"
}

// wantFight is B2, worked out anew: Life is lost one by one, and who has none left is gone, with its jobs.
func wantFight(k []api.Kind, w api.World, seen map[string]int) (api.World, []api.Event) {
	after := copied(w)
	hits := map[int]int{}
	var events []api.Event
	for i, u := range w.Units {
		o, sort := wantTarget(k, w, i)
		seen[sort]++
		if o < 0 {
			continue
		}
		hits[o]++
		events = append(events, api.Event{What: 2, Unit: u.Id, Arg: w.Units[o].Id})
		for range k[u.Kind].Hit {
			after.Units[o].Life--
		}
	}
	var units []api.Unit
	queue := after.Queue
	for i, u := range after.Units {
		if hits[i] > 1 {
			seen["struck by several"]++
		}
		if u.Life > 0 {
			units = append(units, u)
			continue
		}
		if u.Life == 0 {
			seen["loses just all"]++
		}
		seen["falls"]++
		events = append(events, api.Event{What: 3, Unit: u.Id})
		var left []api.Job
		for _, j := range queue {
			if j.Unit != u.Id {
				left = append(left, j)
			} else {
				seen["a job goes"]++
			}
		}
		queue = left
	}
	seen["a job stays"] += len(queue)
	after.Units, after.Queue = units, queue
	return after, events
}

func drawnKinds(r *rand.Rand) []api.Kind {
	k := sorts()
	for i := range k {
		k[i].Life, k[i].Hit, k[i].Range = 1+r.Intn(12), r.Intn(5), r.Intn(5)
		k[i].Flies, k[i].Trains = r.Intn(3) == 0, r.Intn(2) == 0
		if r.Intn(8) == 0 {
			k[i].Range = api.MaxSide
		}
	}
	return k
}

// drawnWorld is right: what is drawn for a unit's cell, and is wrong, is left out.
func drawnWorld(r *rand.Rand, k []api.Kind) api.World {
	wide, high, many := 1+r.Intn(12), 1+r.Intn(12), r.Intn(60)
	f := api.Field{Wide: wide, High: high, Ore: make([]int, wide*high)}
	for range wide * high {
		f.Ground = append(f.Ground, []int{0, 0, 0, 1, 2, 3}[r.Intn(6)])
	}
	w, _ := world.New(k, f, 1+r.Intn(4), 50)
	for range many {
		more, err := world.Place(k, w, r.Intn(len(w.Gold)), r.Intn(len(k)), r.Intn(wide*high))
		if err != nil {
			continue
		}
		w = more
		w.Next += r.Intn(3)
		u := &w.Units[len(w.Units)-1]
		u.Life, u.Load = 1+r.Intn(u.Life), r.Intn(k[u.Kind].Carry+1)
		if u.Task = r.Intn(3); u.Task != api.Rest {
			u.Goal = r.Intn(wide * high)
		}
		if k[u.Kind].Trains && len(w.Queue) < api.MaxQueue {
			w.Queue = slices.Insert(w.Queue, r.Intn(len(w.Queue)+1), api.Job{Player: u.Player, Unit: u.Id, Kind: r.Intn(len(k)), Left: 1 + r.Intn(3)})
		}
	}
	return w
}

// TestDrawn: B1, B2, drawn worlds, always the same ones, turn by turn: as the chapter has it, and they stay right.
func TestDrawn(t *testing.T) {
	r := rand.New(rand.NewSource(10))
	seen := map[string]int{}
	for range 1500 {
		k := drawnKinds(r)
		w := drawnWorld(r, k)
		right(t, k, w)
		for range 3 {
			for i := range w.Units {
				want, _ := wantTarget(k, w, i)
				if got, err := fight.Target(k, w, i); got != want || err != nil {
					t.Fatalf("%v, %v: Target of %d: got %d, %v; want %d", k, w, i, got, err, want)
				}
			}
			want, told := wantFight(k, w, seen)
			got, events, err := fight.Fight(k, w)
			if !alike(got, want) || !slices.Equal(events, told) || err != nil {
				t.Fatalf("%v, %v: Fight: got %v, %v, %v; want %v, %v", k, w, got, events, err, want, told)
			}
			right(t, k, got)
			w = got
		}
	}
	for _, sort := range []string{"no Hit", "nobody near", "the nearest", "the least Life", "the first of alike ones", "struck by several", "loses just all", "falls", "a job goes", "a job stays"} {
		if seen[sort] < 100 {
			t.Errorf("%s: drawn %d times alone", sort, seen[sort])
		}
	}
}

// TestDrawnWrong: B1, B2 and P1, worlds of which some numbers are drawn: Check's error, ahead of all, then that of an index, and no panic.
func TestDrawnWrong(t *testing.T) {
	r := rand.New(rand.NewSource(20))
	seen := map[api.Errno]int{}
	for range 20000 {
		w := few(t)
		l := []*int{&w.Turn, &w.Next, &w.Field.Wide, &w.Field.High, &w.Gold[0], &w.Field.Ground[r.Intn(12)], &w.Field.Ore[r.Intn(12)]}
		for i := range w.Units {
			u := &w.Units[i]
			l = append(l, &u.Id, &u.Player, &u.Kind, &u.At, &u.Life, &u.Load, &u.Task, &u.Goal)
		}
		for i := range w.Queue {
			j := &w.Queue[i]
			l = append(l, &j.Player, &j.Unit, &j.Kind, &j.Left)
		}
		for range 1 + r.Intn(3) {
			n := l[r.Intn(len(l))]
			*n = []int{*n - 1, *n + 1, r.Intn(14) - 1, r.Intn(4), -*n, *n + 1<<32, 1 << 62, -1 << 63}[r.Intn(8)]
		}
		want := plain.Told(world.Check(sorts(), w))
		got, events, err := fight.Fight(sorts(), w)
		if plain.Told(err) != want || want != api.OK && (!alike(got, api.World{}) || events != nil) {
			t.Fatalf("%v: Fight: got %v, %v, %v; want %v", w, got, events, err, want)
		}
		i := r.Intn(8) - 1
		if want == api.OK && (i < 0 || i > 4) {
			want = api.ErrNone
		}
		at, err := fight.Target(sorts(), w, i)
		if plain.Told(err) != want || want != api.OK && at != 0 {
			t.Fatalf("%v: Target of %d: got %d, %v; want %v", w, i, at, err, want)
		}
		seen[want]++
	}
	for _, e := range []api.Errno{api.OK, api.ErrRange, api.ErrShape, api.ErrOrder, api.ErrNone, api.ErrState} {
		if seen[e] < 100 {
			t.Errorf("%v was drawn %d times alone", e, seen[e])
		}
	}
}
