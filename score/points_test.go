package score_test

import (
	"math/big"
	"math/rand"
	"slices"
	"strings"
	"testing"

	"marchland/api"
	"marchland/field"
	"marchland/plain"
	"marchland/score"
	"marchland/world"
)

// Numbers of the kinds.
const (
	base = iota
	third
	seventh
	gift
	dear
)

// sorts are kinds of which some have a Life that does not go evenly into Price.
func sorts() []api.Kind {
	return []api.Kind{
		{Name: "base", Life: 50, Sight: 4, Price: 50, Turns: 5, Trains: true},
		{Name: "third", Life: 3, Hit: 900, Range: 1, Speed: 2, Price: 10, Carry: 1000},
		{Name: "seventh", Life: 7, Price: 5, Turns: 8, Flies: true},
		{Name: "gift", Life: 9, Carry: 20},
		{Name: "dear", Life: 1000, Price: 1000},
	}
}

// idOf the i-th unit of a scene: never its index.
func idOf(i int) int { return 2*i + 3 }

// of is a unit of a player; a scene says where it stands.
func of(player, kind, life int) api.Unit { return api.Unit{Player: player, Kind: kind, Life: life} }

// scene is a world of these players' Golds, and these units, on plain cells one by one.
func scene(t *testing.T, gold []int, units ...api.Unit) api.World {
	t.Helper()
	f, at, err := field.Parse(strings.Repeat("............\n", 4))
	if err != nil {
		t.Fatalf("Parse: %v at %d", err, at)
	}
	w := api.World{Turn: 6, Next: 90, Field: f, Gold: slices.Clone(gold)}
	for i, u := range units {
		u.Id, u.At = idOf(i), i
		w.Units = append(w.Units, u)
	}
	right(t, sorts(), w)
	return w
}

func right(t *testing.T, k []api.Kind, w api.World) {
	t.Helper()
	if err := world.Check(k, w); err != nil {
		t.Fatalf("%v: Check says %v", w, err)
	}
}

// TestPoints: N1, Gold and ten times what the units are worth, of as many players as there are.
func TestPoints(t *testing.T) {
	for _, c := range []struct {
		name  string
		gold  []int
		units []api.Unit
		want  []int
	}{
		{"one player with nothing", []int{0}, nil, []int{0}},
		{"one player with Gold alone", []int{7}, nil, []int{7}},
		{"Gold alone, of four", []int{1, 20, 300, 4000}, nil, []int{1, 20, 300, 4000}},
		{"the most Gold", []int{1000000, 0, 999999}, nil, []int{1000000, 0, 999999}},
		{"a whole unit", []int{0}, []api.Unit{of(0, base, 50)}, []int{500}},
		{"a whole unit and Gold", []int{7}, []api.Unit{of(0, base, 50)}, []int{507}},
		{"a unit of the first of two", []int{1, 2}, []api.Unit{of(0, base, 50)}, []int{501, 2}},
		{"a unit of the last of two", []int{1, 2}, []api.Unit{of(1, base, 50)}, []int{1, 502}},
		{"a unit of the last of four", []int{0, 0, 0, 0}, []api.Unit{of(3, base, 50)}, []int{0, 0, 0, 500}},
		{"one of each", []int{4, 3, 2, 1}, []api.Unit{of(3, base, 50), of(2, third, 3), of(1, seventh, 7), of(0, dear, 1000)}, []int{10004, 53, 102, 501}},
		{"several kinds of one", []int{0, 9}, []api.Unit{of(0, base, 50), of(0, third, 3), of(0, seventh, 7), of(0, gift, 9), of(0, dear, 1000)}, []int{10650, 9}},
		{"several kinds of two, in turn", []int{0, 9}, []api.Unit{of(0, base, 50), of(1, third, 3), of(0, third, 3), of(1, seventh, 7), of(0, base, 50)}, []int{1100, 159}},
		{"half of its Life", []int{0}, []api.Unit{of(0, base, 25)}, []int{250}},
		{"one left of its Life", []int{0}, []api.Unit{of(0, base, 1)}, []int{10}},
		{"a third is rounded ahead of ten times it", []int{0}, []api.Unit{of(0, third, 1)}, []int{30}},
		{"two thirds likewise", []int{0}, []api.Unit{of(0, third, 2)}, []int{60}},
		{"each is rounded for itself", []int{0}, []api.Unit{of(0, third, 1), of(0, third, 1), of(0, third, 1)}, []int{90}},
		{"of a part below 1 nothing", []int{0, 5}, []api.Unit{of(1, seventh, 1), of(1, seventh, 1)}, []int{0, 5}},
		{"all but one of its Life", []int{0}, []api.Unit{of(0, dear, 999)}, []int{9990}},
		{"of no Price", []int{8}, []api.Unit{of(0, gift, 9)}, []int{8}},
		{"the most of all", []int{1000000, 1000000}, slices.Repeat([]api.Unit{of(1, dear, 1000)}, 40), []int{1000000, 1400000}},
	} {
		got, err := score.Points(sorts(), scene(t, c.gold, c.units...))
		if !slices.Equal(got, c.want) || err != nil {
			t.Errorf("%s: got %v, %v; want %v", c.name, got, err, c.want)
		}
	}
}

// TestPointsOfNothingElse: N1, neither a Load, nor a Task, nor jobs, nor ore count, nor what Turn it is.
func TestPointsOfNothingElse(t *testing.T) {
	w := scene(t, []int{3, 4}, of(0, base, 50), of(1, third, 2))
	w.Turn, w.Field.Ore[1], w.Field.Ore[9] = api.MaxNumber, 70, 90
	w.Units[1].Load, w.Units[1].Task, w.Units[1].Goal = 1000, api.Gather, 9
	w.Queue = []api.Job{{Unit: idOf(0), Kind: dear, Left: 1}, {Unit: idOf(0), Kind: base, Left: 9}}
	right(t, sorts(), w)
	if got, err := score.Points(sorts(), w); !slices.Equal(got, []int{503, 64}) || err != nil {
		t.Errorf("got %v, %v", got, err)
	}
}

// TestPointsOfNoKinds: N1, without kinds there is Gold alone.
func TestPointsOfNoKinds(t *testing.T) {
	if got, err := score.Points(nil, scene(t, []int{3, 4})); !slices.Equal(got, []int{3, 4}) || err != nil {
		t.Errorf("got %v, %v", got, err)
	}
}

// wantPoints is N1 of one player, with parts as they are.
func wantPoints(k []api.Kind, w api.World, player int) int {
	sum := w.Gold[player]
	for _, u := range w.Units {
		if u.Player == player {
			part := big.NewRat(int64(k[u.Kind].Price)*int64(u.Life), int64(k[u.Kind].Life))
			sum += 10 * int(new(big.Int).Quo(part.Num(), part.Denom()).Int64())
		}
	}
	return sum
}

// TestPointsOfDrawn: N1, drawn kinds and worlds.
func TestPointsOfDrawn(t *testing.T) {
	r := rand.New(rand.NewSource(13))
	for range 2000 {
		k, gold := sorts(), make([]int, 1+r.Intn(4))
		for i := range gold {
			gold[i] = r.Intn(api.MaxNumber + 1)
		}
		w := scene(t, gold)
		for i := range k {
			k[i].Life, k[i].Price = 1+r.Intn(1000), r.Intn(1001)
		}
		for i := range r.Intn(41) {
			kind := r.Intn(len(k))
			w.Units = append(w.Units, api.Unit{Id: idOf(i), Player: r.Intn(len(gold)), Kind: kind, At: i, Life: 1 + r.Intn(k[kind].Life)})
		}
		right(t, k, w)
		got, err := score.Points(k, w)
		if err != nil || len(got) != len(gold) {
			t.Fatalf("%v, %v: got %v, %v", k, w, got, err)
		}
		for player, points := range got {
			if want := wantPoints(k, w, player); points != want {
				t.Fatalf("%v, %v: player %d: got %d, want %d", k, w, player, points, want)
			}
		}
	}
}

// few is an ordinary world, with which something may be wrong.
func few(t *testing.T) api.World {
	t.Helper()
	w := scene(t, []int{5, 8, 70}, of(0, base, 50), of(1, third, 2), of(0, gift, 1), of(1, base, 1), of(2, seventh, 7))
	w.Units[2].Load, w.Units[2].Task, w.Units[2].Goal = 20, api.March, 40
	w.Queue = []api.Job{{Player: 1, Unit: idOf(3), Kind: dear, Left: 3}, {Unit: idOf(0), Kind: third, Left: 1}}
	w.Field.Ground[47], w.Field.Ground[46] = api.Rock, api.Forest
	right(t, sorts(), w)
	return w
}

// fault is one thing that is wrong with few, and what is told of it.
type fault struct {
	name string
	told api.Errno
	make func(k *[]api.Kind, w *api.World)
}

func faults() []fault {
	return []fault{
		{"nine kinds", api.ErrFull, func(k *[]api.Kind, w *api.World) { *k = make([]api.Kind, 9) }},
		{"a kind without a name", api.ErrSyntax, func(k *[]api.Kind, w *api.World) { (*k)[4].Name = "" }},
		{"a kind twice", api.ErrClash, func(k *[]api.Kind, w *api.World) { (*k)[4].Name = "gift" }},
		{"a kind without Life", api.ErrRange, func(k *[]api.Kind, w *api.World) { (*k)[4].Life = 0 }},
		{"a Price beyond 1000", api.ErrRange, func(k *[]api.Kind, w *api.World) { (*k)[4].Price = 1001 }},
		{"no kinds", api.ErrRange, func(k *[]api.Kind, w *api.World) { *k = nil }},
		{"sides", api.ErrRange, func(k *[]api.Kind, w *api.World) { w.Field.Wide = 13 }},
		{"no lists of cells", api.ErrShape, func(k *[]api.Kind, w *api.World) { w.Field.Ground, w.Field.Ore = nil, nil }},
		{"a ground that is none", api.ErrRange, func(k *[]api.Kind, w *api.World) { w.Field.Ground[45] = 4 }},
		{"ore in forest", api.ErrState, func(k *[]api.Kind, w *api.World) { w.Field.Ore[46] = 1 }},
		{"a Turn below 0", api.ErrRange, func(k *[]api.Kind, w *api.World) { w.Turn = -1 }},
		{"Next", api.ErrRange, func(k *[]api.Kind, w *api.World) { w.Next = 3 }},
		{"no players", api.ErrRange, func(k *[]api.Kind, w *api.World) { w.Gold = nil }},
		{"five players", api.ErrRange, func(k *[]api.Kind, w *api.World) { w.Gold = make([]int, 5) }},
		{"Gold below 0", api.ErrRange, func(k *[]api.Kind, w *api.World) { w.Gold[2] = -1 }},
		{"Gold beyond MaxNumber", api.ErrRange, func(k *[]api.Kind, w *api.World) { w.Gold[2] = api.MaxNumber + 1 }},
		{"41 units", api.ErrFull, func(k *[]api.Kind, w *api.World) { w.Units = append(w.Units, make([]api.Unit, 36)...) }},
		{"an id twice", api.ErrOrder, func(k *[]api.Kind, w *api.World) { w.Units[3].Id = w.Units[2].Id }},
		{"a player that is none here", api.ErrRange, func(k *[]api.Kind, w *api.World) { w.Units[4].Player = 3 }},
		{"a player that is none anywhere", api.ErrRange, func(k *[]api.Kind, w *api.World) { w.Units[4].Player = 4 }},
		{"a kind that is none", api.ErrRange, func(k *[]api.Kind, w *api.World) { w.Units[4].Kind = 5 }},
		{"no Life, which Worth would let pass", api.ErrRange, func(k *[]api.Kind, w *api.World) { w.Units[0].Life = 0 }},
		{"Life beyond the kind's", api.ErrRange, func(k *[]api.Kind, w *api.World) { w.Units[0].Life = 51 }},
		{"a Load beyond Carry", api.ErrRange, func(k *[]api.Kind, w *api.World) { w.Units[2].Load = 21 }},
		{"a Task that is none", api.ErrRange, func(k *[]api.Kind, w *api.World) { w.Units[1].Task = 3 }},
		{"At is no cell", api.ErrNone, func(k *[]api.Kind, w *api.World) { w.Units[1].At = 48 }},
		{"Goal is no cell", api.ErrNone, func(k *[]api.Kind, w *api.World) { w.Units[1].Goal = -1 }},
		{"on rock", api.ErrState, func(k *[]api.Kind, w *api.World) { w.Units[4].At = 47 }},
		{"two on a cell", api.ErrState, func(k *[]api.Kind, w *api.World) { w.Units[4].At = 0 }},
		{"a Goal at rest", api.ErrState, func(k *[]api.Kind, w *api.World) { w.Units[0].Goal = 1 }},
		{"13 jobs", api.ErrFull, func(k *[]api.Kind, w *api.World) { w.Queue = slices.Repeat(w.Queue[:1], 13) }},
		{"a job of nobody", api.ErrNone, func(k *[]api.Kind, w *api.World) { w.Queue[1].Unit = 4 }},
		{"a job of another's", api.ErrState, func(k *[]api.Kind, w *api.World) { w.Queue[1].Player = 1 }},
		{"a job at one that does not train", api.ErrState, func(k *[]api.Kind, w *api.World) { w.Queue[1].Unit = idOf(2) }},
		{"a job of a kind that is none", api.ErrRange, func(k *[]api.Kind, w *api.World) { w.Queue[1].Kind = 5 }},
		{"Left 0, of the last job", api.ErrRange, func(k *[]api.Kind, w *api.World) { w.Queue[1].Left = 0 }},
	}
}

// TestPointsOfWrong: N1, what Check tells of a world, and nothing beside it.
func TestPointsOfWrong(t *testing.T) {
	if got, err := score.Points(sorts(), few(t)); !slices.Equal(got, []int{505, 78, 120}) || err != nil {
		t.Errorf("of few: got %v, %v", got, err)
	}
	for _, c := range faults() {
		k, w := sorts(), few(t)
		c.make(&k, &w)
		if err := world.Check(k, w); plain.Told(err) != c.told {
			t.Fatalf("%s: Check says %v", c.name, err)
		}
		if got, err := score.Points(k, w); got != nil || plain.Told(err) != c.told {
			t.Errorf("%s: got %v, %v; want %v", c.name, got, err, c.told)
		}
	}
	for _, k := range [][]api.Kind{nil, sorts()} {
		if got, err := score.Points(k, api.World{}); got != nil || plain.Told(err) != api.ErrRange {
			t.Errorf("of no world: got %v, %v", got, err)
		}
	}
}
