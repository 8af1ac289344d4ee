package chron_test

import (
	"math"
	"slices"
	"testing"

	"marchland/api"
	"marchland/chron"
	"marchland/tape"
)

// TestBegin: H1, on an empty tape a world begins, and is safe: ordinary ones, the least, the greatest, and a late one.
func TestBegin(t *testing.T) {
	greatKinds, greatest := great()
	late := few(t)
	late.Turn = api.MaxNumber
	for _, c := range []struct {
		name string
		k    []api.Kind
		w    api.World
	}{
		{"few", sorts(t), few(t)}, {"bare", nil, bare()}, {"bare, of kinds", sorts(t), bare()}, {"great", greatKinds, greatest}, {"late", sorts(t), late},
	} {
		p := tape.New()
		if err := chron.Begin(p, c.k, c.w); err != nil {
			t.Fatalf("%s: got %v", c.name, err)
		}
		allSafe(t, p)
		finds(t, p, c.k, c.w, nil)
		p.Crash(0)
		finds(t, p, c.k, c.w, nil)
	}
}

// TestBeginFlags: H1, what each kind has is kept, each of its numbers and flags for itself.
func TestBeginFlags(t *testing.T) {
	for i := range 10 {
		k := []api.Kind{{Name: "a", Life: 1}, {Name: "zzzzzzzz", Life: 1}}
		one := &k[i%2]
		*[]*int{&one.Life, &one.Hit, &one.Range, &one.Sight, &one.Speed, &one.Price, &one.Turns, &one.Carry, new(int), new(int)}[i] = 3
		one.Flies, one.Trains = i == 8, i == 9
		p := tape.New()
		does(t, chron.Begin(p, k, bare()))
		finds(t, p, k, bare(), nil)
	}
}

// TestBeginAgain: H1, a tape from which all was cut is empty, so that another world may begin.
func TestBeginAgain(t *testing.T) {
	p := begun(t, asked(1), asked(2))
	does(t, p.Cut(0))
	findsNone(t, p)
	does(t, chron.Begin(p, nil, bare()))
	allSafe(t, p)
	finds(t, p, nil, bare(), nil)
}

// noBegin asks for one error of Begin, which leaves the tape as it is.
func noBegin(t *testing.T, p *tape.Tape, k []api.Kind, w api.World, want api.Errno) {
	t.Helper()
	staysAs(t, p, func() {
		t.Helper()
		tells(t, chron.Begin(p, k, w), want)
	})
}

// TestBeginBehindBytes: H1, ErrState where there are bytes: a whole world, with turns too, one that is torn anywhere, one byte alone, others; safe or not.
func TestBeginBehindBytes(t *testing.T) {
	b := begun(t).Bytes()
	l := append(otherBytes(t), b, begun(t, asked(1), nil).Bytes())
	for n := 1; n < len(b); n++ {
		l = append(l, b[:n])
	}
	for _, b := range l {
		p := laid(t, b)
		for range 2 {
			noBegin(t, p, sorts(t), few(t), api.ErrState)
			noBegin(t, p, nil, bare(), api.ErrState)
			does(t, p.Sync())
		}
	}
	p := begun(t, asked(3))
	noBegin(t, p, sorts(t), few(t), api.ErrState)
	findsFew(t, p, askedTurns(3, 4))
}

// fault is one thing that is wrong with few, and what is told of it.
type fault struct {
	name string
	told api.Errno
	make func(k *[]api.Kind, w *api.World)
}

func faultsOfKinds() []fault {
	return []fault{
		{"nine kinds", api.ErrFull, func(k *[]api.Kind, w *api.World) { *k = make([]api.Kind, 9) }},
		{"a kind without a name", api.ErrSyntax, func(k *[]api.Kind, w *api.World) { (*k)[3].Name = "" }},
		{"a name of nine letters", api.ErrSyntax, func(k *[]api.Kind, w *api.World) { (*k)[3].Name = "birdsbird" }},
		{"a name with a blank", api.ErrSyntax, func(k *[]api.Kind, w *api.World) { (*k)[3].Name = "b d" }},
		{"a kind twice", api.ErrClash, func(k *[]api.Kind, w *api.World) { (*k)[3].Name = "base" }},
		{"no Life", api.ErrRange, func(k *[]api.Kind, w *api.World) { (*k)[3].Life = 0 }},
		{"a Price below 0", api.ErrRange, func(k *[]api.Kind, w *api.World) { (*k)[1].Price = -1 }},
		{"Turns 1001", api.ErrRange, func(k *[]api.Kind, w *api.World) { (*k)[1].Turns = 1001 }},
		{"Speed 5", api.ErrRange, func(k *[]api.Kind, w *api.World) { (*k)[2].Speed = 5 }},
		{"Range 13", api.ErrRange, func(k *[]api.Kind, w *api.World) { (*k)[2].Range = 13 }},
		{"no kinds", api.ErrRange, func(k *[]api.Kind, w *api.World) { *k = nil }},
	}
}

func faultsOfWorlds() []fault {
	return []fault{
		{"sides", api.ErrRange, func(k *[]api.Kind, w *api.World) { w.Field.Wide = 13 }},
		{"no lists of cells", api.ErrShape, func(k *[]api.Kind, w *api.World) { w.Field.Ground, w.Field.Ore = nil, nil }},
		{"a ground that is none", api.ErrRange, func(k *[]api.Kind, w *api.World) { w.Field.Ground[1] = 4 }},
		{"too much ore", api.ErrRange, func(k *[]api.Kind, w *api.World) { w.Field.Ore[5] = api.MaxNumber + 1 }},
		{"ore in forest", api.ErrState, func(k *[]api.Kind, w *api.World) { w.Field.Ore[2] = 1 }},
		{"a Turn below 0", api.ErrRange, func(k *[]api.Kind, w *api.World) { w.Turn = -1 }},
		{"a Turn beyond MaxNumber", api.ErrRange, func(k *[]api.Kind, w *api.World) { w.Turn = api.MaxNumber + 1 }},
		{"the greatest Turn", api.ErrRange, func(k *[]api.Kind, w *api.World) { w.Turn = math.MaxInt }},
		{"Next", api.ErrRange, func(k *[]api.Kind, w *api.World) { w.Next = 8 }},
		{"no players", api.ErrRange, func(k *[]api.Kind, w *api.World) { w.Gold = nil }},
		{"five players", api.ErrRange, func(k *[]api.Kind, w *api.World) { w.Gold = make([]int, 5) }},
		{"Gold", api.ErrRange, func(k *[]api.Kind, w *api.World) { w.Gold[2] = -1 }},
		{"41 units", api.ErrFull, func(k *[]api.Kind, w *api.World) { w.Units = append(w.Units, make([]api.Unit, 36)...) }},
		{"an id twice", api.ErrOrder, func(k *[]api.Kind, w *api.World) { w.Units[3].Id = 4 }},
		{"a player that is none", api.ErrRange, func(k *[]api.Kind, w *api.World) { w.Units[4].Player = 3 }},
		{"a kind that is none", api.ErrRange, func(k *[]api.Kind, w *api.World) { w.Units[4].Kind = -1 }},
		{"a Life of 0", api.ErrRange, func(k *[]api.Kind, w *api.World) { w.Units[0].Life = 0 }},
		{"a Load beyond Carry", api.ErrRange, func(k *[]api.Kind, w *api.World) { w.Units[2].Load = 21 }},
		{"a Task that is none", api.ErrRange, func(k *[]api.Kind, w *api.World) { w.Units[1].Task = 3 }},
		{"At is no cell", api.ErrNone, func(k *[]api.Kind, w *api.World) { w.Units[1].At = 12 }},
		{"Goal is no cell", api.ErrNone, func(k *[]api.Kind, w *api.World) { w.Units[1].Goal = -1 }},
		{"on rock", api.ErrState, func(k *[]api.Kind, w *api.World) { w.Units[3].At = 6 }},
		{"two on a cell", api.ErrState, func(k *[]api.Kind, w *api.World) { w.Units[3].At = 1 }},
		{"a Goal at rest", api.ErrState, func(k *[]api.Kind, w *api.World) { w.Units[0].Goal = 1 }},
		{"13 jobs", api.ErrFull, func(k *[]api.Kind, w *api.World) { w.Queue = slices.Repeat(w.Queue[:1], 13) }},
		{"a job of nobody", api.ErrNone, func(k *[]api.Kind, w *api.World) { w.Queue[1].Unit = 2 }},
		{"a job of another's", api.ErrState, func(k *[]api.Kind, w *api.World) { w.Queue[1].Player = 1 }},
		{"a job at one that does not train", api.ErrState, func(k *[]api.Kind, w *api.World) { w.Queue[1].Unit = 4 }},
		{"a job of a kind that is none", api.ErrRange, func(k *[]api.Kind, w *api.World) { w.Queue[1].Kind = 4 }},
		{"Left 0", api.ErrRange, func(k *[]api.Kind, w *api.World) { w.Queue[1].Left = 0 }},
	}
}

func wrong(t *testing.T, l ...fault) ([]api.Kind, api.World) {
	t.Helper()
	k, w := sorts(t), few(t)
	for _, f := range l {
		f.make(&k, &w)
	}
	return k, w
}

// TestBeginWrong: H1, each error of chapter 7's Check by itself; the tape stays empty, so that another one may begin.
func TestBeginWrong(t *testing.T) {
	p := tape.New()
	for _, f := range append(faultsOfKinds(), faultsOfWorlds()...) {
		k, w := wrong(t, f)
		staysAs(t, p, func() {
			if err := chron.Begin(p, k, w); err != f.told {
				t.Errorf("%s: got %v, want %v", f.name, err, f.told)
			}
		})
	}
	findsNone(t, p)
	does(t, chron.Begin(p, sorts(t), few(t)))
	findsFew(t, p, nil)
}

// TestBeginFirst: H1, which of two is told: bytes on the tape, then what is wrong with kinds, then with the world, then that the tape fails.
func TestBeginFirst(t *testing.T) {
	full, failing := begun(t), tape.New()
	failing.Fail(0)
	for _, f := range append(faultsOfKinds(), faultsOfWorlds()...) {
		k, w := wrong(t, f)
		noBegin(t, full, k, w, api.ErrState)
		noBegin(t, laid(t, []byte{0}), k, w, api.ErrState)
		noBegin(t, failing, k, w, f.told)
	}
	for _, ahead := range faultsOfKinds()[:10] {
		for _, f := range faultsOfWorlds() {
			k, w := wrong(t, f, ahead)
			noBegin(t, tape.New(), k, w, ahead.told)
		}
	}
	full.Fail(0)
	noBegin(t, full, sorts(t), few(t), api.ErrState)
	noBegin(t, failing, sorts(t), few(t), api.ErrState)
}

// TestBeginFails: H1, H2, a Begin on a tape that stops at each number of steps, and is Crashed with each number of bytes kept: if none is there it begins anew, else not; what is found is nothing, or all of it.
func TestBeginFails(t *testing.T) {
	whole := len(begun(t).Bytes())
	for at := 0; ; at++ {
		for keep := -1; keep <= whole+1; keep++ {
			p := tape.New()
			p.Fail(at)
			if chron.Begin(p, sorts(t), few(t)) == nil {
				if at == 0 {
					t.Fatal("it began, and did nothing")
				}
				return
			}
			p.Crash(keep)
			if len(p.Bytes()) == 0 {
				findsNone(t, p)
				does(t, chron.Begin(p, nil, bare()))
				finds(t, p, nil, bare(), nil)
				continue
			}
			noBegin(t, p, sorts(t), few(t), api.ErrState)
			if keep < whole {
				findsNone(t, p)
				continue
			}
			findsFew(t, p, nil)
			keeps(t, p, asked(1))
			findsFew(t, p, askedTurns(1, 2))
		}
	}
}
