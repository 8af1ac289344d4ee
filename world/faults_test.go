package world_test

import (
	"math/rand"
	"strconv"
	"testing"

	"marchland/api"
	"marchland/field"
	"marchland/kinds"
	"marchland/plain"
	"marchland/world"
)

// fault is one thing that is wrong with few: where it lies, what is told of it, and how it comes.
type fault struct {
	where string
	told  api.Errno
	make  func(k *[]api.Kind, w *api.World)
}

// ofUnit are the faults that a unit of few may have, in the order in which the chapter names them.
func ofUnit(i int) []fault {
	var l []fault
	add := func(where string, told api.Errno, to func(w *api.World, u *api.Unit)) {
		l = append(l, fault{where + strconv.Itoa(i), told, func(_ *[]api.Kind, w *api.World) { to(w, &w.Units[i]) }})
	}
	add("id", api.ErrRange, func(w *api.World, u *api.Unit) { u.Id = 0 })
	add("id", api.ErrRange, func(w *api.World, u *api.Unit) { u.Id = 9 })
	add("id", api.ErrOrder, func(w *api.World, u *api.Unit) { u.Id = w.Units[i-1].Id })
	add("player", api.ErrRange, func(w *api.World, u *api.Unit) { u.Player = 2 })
	add("kind", api.ErrRange, func(w *api.World, u *api.Unit) { u.Kind = 8 })
	add("life", api.ErrRange, func(w *api.World, u *api.Unit) { u.Life = 0 })
	add("load", api.ErrRange, func(w *api.World, u *api.Unit) { u.Load = -1 })
	add("task", api.ErrRange, func(w *api.World, u *api.Unit) { u.Task = 3 })
	add("at", api.ErrNone, func(w *api.World, u *api.Unit) { u.At = 12 })
	add("goal", api.ErrNone, func(w *api.World, u *api.Unit) { u.Goal = -1 })
	add("at", api.ErrState, func(w *api.World, u *api.Unit) { u.At = 1 })
	add("at", api.ErrState, func(w *api.World, u *api.Unit) { u.At = w.Units[i-1].At })
	add("goal, task", api.ErrState, func(w *api.World, u *api.Unit) { u.Task, u.Goal = api.Rest, 3 })
	return l
}

// ofJob are the faults that a job of few may have, likewise.
func ofJob(i int) []fault {
	var l []fault
	add := func(where string, told api.Errno, to func(j *api.Job)) {
		l = append(l, fault{where + strconv.Itoa(i), told, func(_ *[]api.Kind, w *api.World) { to(&w.Queue[i]) }})
	}
	add("unit of job", api.ErrNone, func(j *api.Job) { j.Unit = 7 })
	add("player of job", api.ErrState, func(j *api.Job) { j.Player = 1 - j.Player })
	add("unit, player of job", api.ErrState, func(j *api.Job) { j.Unit, j.Player = 4, 0 })
	add("kind of job", api.ErrRange, func(j *api.Job) { j.Kind = 8 })
	add("left", api.ErrRange, func(j *api.Job) { j.Left = 0 })
	return l
}

// faults of few, in the order in which they are told.
func faults() []fault {
	l := []fault{
		{"kinds", api.ErrFull, func(k *[]api.Kind, w *api.World) { *k = make([]api.Kind, 9) }},
		{"kinds", api.ErrSyntax, func(k *[]api.Kind, w *api.World) { *k = append(*k, api.Kind{Life: 1}) }},
		{"kinds", api.ErrClash, func(k *[]api.Kind, w *api.World) { *k = append(*k, (*k)[0]) }},
		{"sides", api.ErrRange, func(k *[]api.Kind, w *api.World) { w.Field.Wide = 13 }},
		{"ores", api.ErrShape, func(k *[]api.Kind, w *api.World) { w.Field.Ore = append(w.Field.Ore, 0) }},
		{"ore", api.ErrState, func(k *[]api.Kind, w *api.World) { w.Field.Ore[3] = 10 }},
		{"turn", api.ErrRange, func(k *[]api.Kind, w *api.World) { w.Turn = -1 }},
		{"next", api.ErrRange, func(k *[]api.Kind, w *api.World) { w.Next = 1000001 }},
		{"golds", api.ErrRange, func(k *[]api.Kind, w *api.World) { w.Gold = make([]int, 5) }},
		{"gold", api.ErrRange, func(k *[]api.Kind, w *api.World) { w.Gold[1] = -1 }},
		{"units", api.ErrFull, func(k *[]api.Kind, w *api.World) { w.Units = append(w.Units, make([]api.Unit, 36)...) }},
	}
	for i := 1; i < 5; i++ {
		l = append(l, ofUnit(i)...)
	}
	l = append(l, fault{"queue", api.ErrFull, func(k *[]api.Kind, w *api.World) { w.Queue = append(w.Queue, make([]api.Job, 10)...) }})
	for i := range 3 {
		l = append(l, ofJob(i)...)
	}
	return l
}

// wrong is few with these faults.
func wrong(l ...fault) ([]api.Kind, api.World) {
	k, w := sorts(), few()
	for _, f := range l {
		f.make(&k, &w)
	}
	return k, w
}

// TestCheckFaults: S2, each fault alone, and which one is told where two meet.
func TestCheckFaults(t *testing.T) {
	l := faults()
	for i, one := range l {
		k, w := wrong(one)
		if err := world.Check(k, w); plain.Told(err) != one.told {
			t.Errorf("fault %d, %s: got %v, want %v", i, one.where, err, one.told)
		}
		for j, other := range l[:i] {
			if one.where == other.where {
				continue
			}
			// Of two that write one number the one that is told first is made last.
			k, w := wrong(one, other)
			if err := world.Check(k, w); plain.Told(err) != other.told {
				t.Errorf("faults %d, %s and %d, %s: got %v, want %v", j, other.where, i, one.where, err, other.told)
			}
		}
	}
}

// firstFault is S2 told as a list of all that is wrong, of which the first one counts.
func firstFault(k []api.Kind, w api.World) api.Errno {
	told := []api.Errno{plain.Told(kinds.Check(k)), plain.Told(field.Check(w.Field))}
	say := func(e api.Errno, wrong ...bool) {
		for _, is := range wrong {
			if is {
				told = append(told, e)
			}
		}
	}
	out := func(x, least, most int) bool { return x < least || x > most }
	cells := len(w.Field.Ground)
	say(api.ErrRange, out(w.Turn, 0, 1000000), out(w.Next, 1, 1000000), out(len(w.Gold), 1, 4))
	for _, gold := range w.Gold {
		say(api.ErrRange, out(gold, 0, 1000000))
	}
	say(api.ErrFull, len(w.Units) > 40)
	there, byId, ahead := map[int]bool{}, map[int]api.Unit{}, -1<<63
	for _, u := range w.Units {
		var kind api.Kind
		if !out(u.Kind, 0, len(k)-1) {
			kind = k[u.Kind]
		}
		ground := api.Rock
		if !out(u.At, 0, cells-1) {
			ground = w.Field.Ground[u.At]
		}
		say(api.ErrRange, out(u.Id, 1, w.Next-1))
		say(api.ErrOrder, u.Id <= ahead)
		say(api.ErrRange, out(u.Player, 0, len(w.Gold)-1), kind.Life == 0, out(u.Life, 1, kind.Life), out(u.Load, 0, kind.Carry), out(u.Task, 0, 2))
		say(api.ErrNone, out(u.At, 0, cells-1), out(u.Goal, 0, cells-1))
		say(api.ErrState, ground == api.Rock, ground == api.Water && !kind.Flies, there[u.At], u.Goal != 0 && u.Task == 0)
		there[u.At], byId[u.Id], ahead = true, u, u.Id
	}
	say(api.ErrFull, len(w.Queue) > 12)
	for _, j := range w.Queue {
		u, is := byId[j.Unit]
		say(api.ErrNone, !is)
		say(api.ErrState, u.Player != j.Player, is && !out(u.Kind, 0, len(k)-1) && !k[u.Kind].Trains)
		say(api.ErrRange, out(j.Kind, 0, len(k)-1), out(j.Left, 1, 1000))
	}
	for _, e := range told {
		if e != api.OK {
			return e
		}
	}
	return api.OK
}

// numbersOf are all numbers that a world has.
func numbersOf(w *api.World) []*int {
	l := []*int{&w.Turn, &w.Next, &w.Field.Wide, &w.Field.High}
	for _, list := range [][]int{w.Field.Ground, w.Field.Ore, w.Gold} {
		for i := range list {
			l = append(l, &list[i])
		}
	}
	for i := range w.Units {
		u := &w.Units[i]
		l = append(l, &u.Id, &u.Player, &u.Kind, &u.At, &u.Life, &u.Load, &u.Task, &u.Goal)
	}
	for i := range w.Queue {
		j := &w.Queue[i]
		l = append(l, &j.Player, &j.Unit, &j.Kind, &j.Left)
	}
	return l
}

// TestCheckDrawn: S2, worlds of which one, two or three numbers are drawn.
func TestCheckDrawn(t *testing.T) {
	r := rand.New(rand.NewSource(9))
	seen := map[api.Errno]int{}
	for range 60000 {
		k, w := sorts(), few()
		l := numbersOf(&w)
		for range 1 + r.Intn(3) {
			n := l[r.Intn(len(l))]
			*n = []int{*n - 1, *n + 1, *n + 1<<32, r.Intn(14) - 1, r.Intn(14) - 1, -*n, 1000000, 1000001, 21}[r.Intn(9)]
		}
		want := firstFault(k, w)
		if err := world.Check(k, w); plain.Told(err) != want {
			t.Fatalf("%v: got %v, want %v", w, err, want)
		}
		seen[want]++
	}
	for _, e := range []api.Errno{api.OK, api.ErrRange, api.ErrOrder, api.ErrNone, api.ErrState} {
		if seen[e] < 100 {
			t.Errorf("%v was drawn %d times alone", e, seen[e])
		}
	}
}
