package sight_test

import (
	"math/rand"
	"slices"
	"testing"

	"marchland/api"
	"marchland/plain"
	"marchland/sight"
	"marchland/world"
)

// on is the column, or the row, of a line's k-th cell of n: the one whose share of it, a half ahead and a half behind, k lies in.
func on(from, to, k, n int) int {
	for c := 0; ; c++ {
		if 2*n*(c+1) > 2*from*n+2*k*(to-from)+n {
			return c
		}
	}
}

// isClear is chapter 3's Line, worked out anew: whether nothing hides between two cells.
func isClear(f api.Field, a, b int) bool {
	ac, ar, bc, br := a%f.Wide, a/f.Wide, b%f.Wide, b/f.Wide
	n := max(ac-bc, bc-ac, ar-br, br-ar)
	for k := 1; k < n; k++ {
		switch f.Ground[on(ar, br, k, n)*f.Wide+on(ac, bc, k, n)] {
		case api.Rock, api.Forest:
			return false
		}
	}
	return true
}

// wantSees is what one of a kind sees, and by what: rounded down, a distance's square is below that of one more.
func wantSees(f api.Field, kind api.Kind, a, b int) (bool, string) {
	x, y, most := a%f.Wide-b%f.Wide, a/f.Wide-b/f.Wide, kind.Sight
	switch far := x*x + y*y; {
	case far >= (most+2)*(most+2):
		return false, "far beyond"
	case far >= (most+1)*(most+1):
		return false, "just beyond"
	case kind.Flies && !isClear(f, a, b):
		return true, "over what hides"
	case !isClear(f, a, b):
		return false, "hidden"
	case far >= most*most:
		return true, "just at its Sight"
	}
	return true, "near"
}

// wantSeers is, of each cell, how many units of each player see it.
func wantSeers(k []api.Kind, w api.World, seen map[string]int) [][]int {
	var all [][]int
	for at := range w.Field.Ground {
		many := make([]int, len(w.Gold))
		for _, u := range w.Units {
			sees, why := wantSees(w.Field, k[u.Kind], u.At, at)
			seen[why]++
			if sees {
				many[u.Player]++
			}
		}
		all = append(all, many)
	}
	return all
}

// wantView is A1's View, built up from nothing by what there is to see.
func wantView(w api.World, seers [][]int, player int, seen map[string]int) api.World {
	v := api.World{Turn: w.Turn, Next: w.Next, Field: api.Field{Wide: w.Field.Wide, High: w.Field.High, Ground: w.Field.Ground}}
	for at, ore := range w.Field.Ore {
		if seers[at][player] > 0 {
			v.Field.Ore = append(v.Field.Ore, ore)
		} else {
			v.Field.Ore = append(v.Field.Ore, 0)
			seen["ore goes"] += min(ore, 1)
		}
	}
	for other, gold := range w.Gold {
		if other == player {
			v.Gold = append(v.Gold, gold)
		} else {
			v.Gold = append(v.Gold, 0)
		}
	}
	for _, u := range w.Units {
		switch {
		case u.Player == player:
			v.Units = append(v.Units, u)
		case seers[u.At][player] > 0:
			v.Units = append(v.Units, u)
			seen["another's is shown"]++
		default:
			seen["another's is not shown"]++
		}
	}
	for _, j := range w.Queue {
		if j.Player == player {
			v.Queue = append(v.Queue, j)
			seen["a job is shown"]++
		} else {
			seen["a job is not shown"]++
		}
	}
	return v
}

func drawnKinds(r *rand.Rand) []api.Kind {
	k := sorts()
	for i := range k {
		k[i].Sight = r.Intn(5)
		k[i].Flies, k[i].Trains = r.Intn(3) == 0, r.Intn(2) == 0
		if r.Intn(6) == 0 {
			k[i].Sight = r.Intn(api.MaxSide + 1)
		}
	}
	return k
}

// drawnWorld is right: what is drawn for a unit's cell, and is wrong, is left out.
func drawnWorld(r *rand.Rand, k []api.Kind) api.World {
	wide, high, many := 1+r.Intn(12), 1+r.Intn(12), r.Intn(r.Intn(60)+1)
	f := api.Field{Wide: wide, High: high, Ore: make([]int, wide*high)}
	for at := range wide * high {
		f.Ground = append(f.Ground, []int{0, 0, 0, 0, 0, 1, 2, 3}[r.Intn(8)])
		if f.Ground[at] == api.Plain && r.Intn(3) == 0 {
			f.Ore[at] = r.Intn(100)
		}
	}
	w, _ := world.New(k, f, 1+r.Intn(4), 0)
	w.Turn = r.Intn(100)
	for player := range w.Gold {
		w.Gold[player] = r.Intn(200)
	}
	for range many {
		more, err := world.Place(k, w, r.Intn(len(w.Gold)), r.Intn(len(k)), r.Intn(wide*high))
		if err != nil {
			continue
		}
		w = more
		w.Next += r.Intn(3)
		u := &w.Units[len(w.Units)-1]
		u.Life, u.Load = 1+r.Intn(u.Life), r.Intn(k[u.Kind].Carry+1)
		if u.Task = r.Intn(3); u.Task != api.Rest {
			u.Goal = r.Intn(wide * high)
		}
		if k[u.Kind].Trains && len(w.Queue) < api.MaxQueue {
			w.Queue = slices.Insert(w.Queue, r.Intn(len(w.Queue)+1), api.Job{Player: u.Player, Unit: u.Id, Kind: r.Intn(len(k)), Left: 1 + r.Intn(3)})
		}
	}
	return w
}

// holdDrawn holds what all calls answer of a world against the chapter's rules.
func holdDrawn(t *testing.T, k []api.Kind, w api.World, seen map[string]int) {
	seers := wantSeers(k, w, seen)
	for at, many := range seers {
		var want []int
		for player, n := range many {
			if n > 0 {
				want = append(want, player)
			}
		}
		seen["seen by "+[]string{"nobody", "one", "several", "several", "several"}[len(want)]]++
		if got, err := sight.Seers(k, w, at); !slices.Equal(got, want) || err != nil {
			t.Fatalf("%v, %v: Seers of %d: got %v, %v; want %v", k, w, at, got, err, want)
		}
	}
	for player := range w.Gold {
		var cells []bool
		for _, many := range seers {
			cells = append(cells, many[player] > 0)
		}
		if got, err := sight.Seen(k, w, player); !slices.Equal(got, cells) || err != nil {
			t.Fatalf("%v, %v: Seen by %d: got %v, %v; want %v", k, w, player, got, err, cells)
		}
		want := wantView(w, seers, player, seen)
		got, err := sight.View(k, w, player)
		if !alike(got, want) || err != nil {
			t.Fatalf("%v, %v: View of %d: got %v, %v; want %v", k, w, player, got, err, want)
		}
		right(t, k, got)
	}
}

// TestDrawn: A1, drawn worlds, always the same ones: as the chapter has it, and each View is right.
func TestDrawn(t *testing.T) {
	r := rand.New(rand.NewSource(11))
	seen := map[string]int{}
	for range 800 {
		k := drawnKinds(r)
		w := drawnWorld(r, k)
		right(t, k, w)
		holdDrawn(t, k, w, seen)
	}
	for _, sort := range []string{"far beyond", "just beyond", "over what hides", "hidden", "just at its Sight", "near", "seen by nobody", "seen by one", "seen by several",
		"ore goes", "another's is shown", "another's is not shown", "a job is shown", "a job is not shown"} {
		if seen[sort] < 100 {
			t.Errorf("%s: drawn %d times alone", sort, seen[sort])
		}
	}
}

// TestDrawnWrong: A1 and P1, worlds of which some numbers are drawn: Check's error, ahead of all, then that of a player or a cell, and no panic.
func TestDrawnWrong(t *testing.T) {
	r := rand.New(rand.NewSource(21))
	seen := map[api.Errno]int{}
	for range 20000 {
		w := few(t)
		l := []*int{&w.Turn, &w.Next, &w.Field.Wide, &w.Field.High, &w.Gold[0], &w.Field.Ground[r.Intn(12)], &w.Field.Ore[r.Intn(12)]}
		for i := range w.Units {
			u := &w.Units[i]
			l = append(l, &u.Id, &u.Player, &u.Kind, &u.At, &u.Life, &u.Load, &u.Task, &u.Goal)
		}
		for i := range w.Queue {
			j := &w.Queue[i]
			l = append(l, &j.Player, &j.Unit, &j.Kind, &j.Left)
		}
		for range 1 + r.Intn(3) {
			n := l[r.Intn(len(l))]
			*n = []int{*n - 1, *n + 1, r.Intn(14) - 1, r.Intn(4), -*n, *n + 1<<32, 1 << 62, -1 << 63}[r.Intn(8)]
		}
		told := plain.Told(world.Check(sorts(), w))
		seen[told]++
		player, at := r.Intn(6)-1, r.Intn(16)-2
		want := told
		if told == api.OK && (player < 0 || player > 2) {
			want = api.ErrRange
		}
		cells, err := sight.Seen(sorts(), w, player)
		if plain.Told(err) != want || (want != api.OK) != (cells == nil) {
			t.Fatalf("%v: Seen by %d: got %v, %v; want %v", w, player, cells, err, want)
		}
		v, err := sight.View(sorts(), w, player)
		if plain.Told(err) != want || (want != api.OK) != alike(v, api.World{}) {
			t.Fatalf("%v: View of %d: got %v, %v; want %v", w, player, v, err, want)
		}
		want = told
		if told == api.OK && (at < 0 || at > 11) {
			want = api.ErrNone
		}
		players, err := sight.Seers(sorts(), w, at)
		if plain.Told(err) != want || want != api.OK && players != nil {
			t.Fatalf("%v: Seers of %d: got %v, %v; want %v", w, at, players, err, want)
		}
	}
	for _, e := range []api.Errno{api.OK, api.ErrRange, api.ErrShape, api.ErrOrder, api.ErrNone, api.ErrState} {
		if seen[e] < 100 {
			t.Errorf("%v was drawn %d times alone", e, seen[e])
		}
	}
}
