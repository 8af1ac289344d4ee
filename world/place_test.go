package world_test

import (
	"math"
	"slices"
	"testing"

	"marchland/api"
	"marchland/plain"
	"marchland/world"
)

// TestNew: S1, each number of players and of gold, at the least and the most, and beyond.
func TestNew(t *testing.T) {
	for _, players := range []int{-1, 0, 1, 2, 3, 4, 5, 1 << 32, 1<<32 + 1, math.MaxInt, math.MinInt} {
		for _, gold := range []int{-1, 0, 1, 50, 999999, 1000000, 1000001, 1 << 32, math.MaxInt, math.MinInt} {
			var want api.World
			told := api.ErrRange
			if players >= 1 && players <= 4 && gold >= 0 && gold <= 1000000 {
				want = api.World{Turn: 0, Next: 1, Field: land(), Gold: []int{gold, gold, gold, gold}[:players]}
				told = api.OK
			}
			got, err := world.New(sorts(), land(), players, gold)
			if !alike(got, want) || plain.Told(err) != told {
				t.Errorf("%d players with %d: got %v, %v; want %v, %v", players, gold, got, err, want, told)
			}
			if told == api.OK && world.Check(sorts(), got) != nil {
				t.Errorf("%d players with %d: Check says %v", players, gold, world.Check(sorts(), got))
			}
		}
	}
}

// TestNewOfFew: S1, of no kinds and of all that there may be, on the least field and the greatest.
func TestNewOfFew(t *testing.T) {
	eight := sorts()
	for _, name := range []string{"e", "f", "g", "h"} {
		eight = append(eight, api.Kind{Name: name, Life: 1})
	}
	for _, k := range [][]api.Kind{nil, {}, sorts()[:1], eight} {
		for _, f := range []api.Field{bare(1, 1), bare(12, 12), bare(1, 12), land()} {
			got, err := world.New(k, f, 3, 7)
			if !alike(got, api.World{Next: 1, Field: f, Gold: []int{7, 7, 7}}) || err != nil {
				t.Errorf("%d kinds, %d by %d: got %v, %v", len(k), f.Wide, f.High, got, err)
			}
		}
	}
}

// TestNewOfWrong: S1, wrong kinds and fields, and which error is told where two meet.
func TestNewOfWrong(t *testing.T) {
	right, twice := sorts(), append(sorts(), sorts()[2])
	nine, nameless, lifeless := make([]api.Kind, 9), []api.Kind{{Life: 1}}, []api.Kind{{Name: "a"}}
	stony := land()
	stony.Ore[1] = 10
	short := land()
	short.Ore = short.Ore[:11]
	wide := bare(12, 1)
	wide.Wide = 13
	for _, c := range []struct {
		name          string
		k             []api.Kind
		f             api.Field
		players, gold int
		told          api.Errno
	}{
		{"nine kinds", nine, land(), 2, 0, api.ErrFull},
		{"a kind without a name", nameless, land(), 2, 0, api.ErrSyntax},
		{"a kind twice", twice, land(), 2, 0, api.ErrClash},
		{"a kind without life", lifeless, land(), 2, 0, api.ErrRange},
		{"no field", right, api.Field{}, 2, 0, api.ErrRange},
		{"a wide field", right, wide, 2, 0, api.ErrRange},
		{"a short list", right, short, 2, 0, api.ErrShape},
		{"ore on rock", right, stony, 2, 0, api.ErrState},
		{"kinds and field", twice, stony, 2, 0, api.ErrClash},
		{"kinds and no field", nameless, api.Field{}, 2, 0, api.ErrSyntax},
		{"kinds and players", nine, land(), 0, 0, api.ErrFull},
		{"kinds and gold", twice, land(), 2, -1, api.ErrClash},
		{"field and players", right, stony, 5, 0, api.ErrState},
		{"field and gold", right, short, 2, 1000001, api.ErrShape},
		{"all", twice, short, 5, -1, api.ErrClash},
	} {
		got, err := world.New(c.k, c.f, c.players, c.gold)
		if !alike(got, api.World{}) || plain.Told(err) != c.told {
			t.Errorf("%s: got %v, %v; want %v", c.name, got, err, c.told)
		}
	}
}

// placed is a world with a unit more, as S1 has it.
func placed(w api.World, player, kind, at int) api.World {
	w = copied(w)
	w.Units = append(w.Units, api.Unit{Id: w.Next, Player: player, Kind: kind, At: at, Life: sorts()[kind].Life, Load: 0, Task: api.Rest, Goal: 0})
	w.Next++
	return w
}

// TestPlace: S1, a first unit, and one behind others, of each player and each kind.
func TestPlace(t *testing.T) {
	for _, w := range []api.World{crowd(0), crowd(1), few(), lone(bird)} {
		for player := range w.Gold {
			for kind := range sorts() {
				got, err := world.Place(sorts(), w, player, kind, 9)
				if want := placed(w, player, kind, 9); !alike(got, want) || err != nil {
					t.Errorf("kind %d of %d: got %v, %v; want %v", kind, player, got, err, want)
				}
				if err := world.Check(sorts(), got); err != nil {
					t.Errorf("kind %d of %d: Check says %v of what comes", kind, player, err)
				}
			}
		}
	}
}

// TestPlaceMany: S1, one by one to the 40th, and the 41st.
func TestPlaceMany(t *testing.T) {
	w, err := world.New(sorts(), bare(12, 12), 2, 5)
	for i := range 40 {
		want := placed(w, i%2, i%4, 143-3*i)
		if w, err = world.Place(sorts(), w, i%2, i%4, 143-3*i); err != nil || !alike(w, want) {
			t.Fatalf("unit %d: got %v, %v; want %v", i, w, err, want)
		}
		if w.Units[i].Id != i+1 || w.Next != i+2 || len(w.Units) != i+1 {
			t.Fatalf("unit %d: got %v", i, w)
		}
	}
	if got, err := world.Place(sorts(), w, 0, 0, 0); !alike(got, api.World{}) || plain.Told(err) != api.ErrFull {
		t.Errorf("unit 41: got %v, %v", got, err)
	}
}

// TestPlaceNext: S1, the last id that may be given, and none.
func TestPlaceNext(t *testing.T) {
	w := few()
	w.Next = 999999
	got, err := world.Place(sorts(), w, 1, fighter, 4)
	if !alike(got, placed(w, 1, fighter, 4)) || got.Next != 1000000 || got.Units[5].Id != 999999 || err != nil {
		t.Errorf("Next 999999: got %v, %v", got, err)
	}
	got, err = world.Place(sorts(), got, 1, fighter, 7)
	if !alike(got, api.World{}) || plain.Told(err) != api.ErrFull {
		t.Errorf("Next 1000000: got %v, %v", got, err)
	}
}

// TestPlaceNone: S1, players, kinds and cells at their least and their most, and beyond.
func TestPlaceNone(t *testing.T) {
	w := lone(base)
	for _, c := range []struct {
		name string
		most int
		told api.Errno
		call func(n int) (api.World, error)
		want func(n int) api.World
	}{
		{"player", 2, api.ErrRange, func(n int) (api.World, error) { return world.Place(sorts(), w, n, fighter, 5) }, func(n int) api.World { return placed(w, n, fighter, 5) }},
		{"kind", 3, api.ErrRange, func(n int) (api.World, error) { return world.Place(sorts(), w, 2, n, 5) }, func(n int) api.World { return placed(w, 2, n, 5) }},
		{"cell", 11, api.ErrNone, func(n int) (api.World, error) { return world.Place(sorts(), w, 2, bird, n) }, func(n int) api.World { return placed(w, 2, bird, n) }},
	} {
		for _, n := range []int{0, 1, c.most - 1, c.most, c.most + 1, -1, -1000, 1 << 32, 1 << 40, 12, 13, math.MaxInt, math.MinInt} {
			got, err := c.call(n)
			if n >= 0 && n <= c.most {
				if !alike(got, c.want(n)) || err != nil {
					t.Errorf("%s %d: got %v, %v", c.name, n, got, err)
				}
			} else if !alike(got, api.World{}) || plain.Told(err) != c.told {
				t.Errorf("%s %d: got %v, %v; want %v", c.name, n, got, err, c.told)
			}
		}
	}
	if got, err := world.Place(nil, api.World{Next: 1, Field: bare(1, 1), Gold: []int{0}}, 0, 0, 0); !alike(got, api.World{}) || plain.Told(err) != api.ErrRange {
		t.Errorf("of no kinds: got %v, %v", got, err)
	}
}

// TestPlaceWhere: S1, on each cell of few one of each kind: on ground that it does not get onto, and where a unit is.
func TestPlaceWhere(t *testing.T) {
	w := few()
	taken := map[int]bool{}
	for _, u := range w.Units {
		taken[u.At] = true
	}
	w.Field.Ground[4], w.Field.Ground[7], w.Field.Ground[10] = api.Rock, api.Water, api.Forest
	for at, ground := range w.Field.Ground {
		for kind := range sorts() {
			for player := range w.Gold {
				got, err := world.Place(sorts(), w, player, kind, at)
				if taken[at] || ground == api.Rock || ground == api.Water && kind != bird {
					if !alike(got, api.World{}) || plain.Told(err) != api.ErrState {
						t.Errorf("kind %d at %d: got %v, %v", kind, at, got, err)
					}
				} else if !alike(got, placed(w, player, kind, at)) || err != nil {
					t.Errorf("kind %d at %d: got %v, %v", kind, at, got, err)
				}
			}
		}
	}
}

// TestPlaceInWrong: S1, in a world with a fault, whatever else is wrong.
func TestPlaceInWrong(t *testing.T) {
	for i, one := range faults() {
		k, w := wrong(one)
		for _, c := range [][3]int{{0, fighter, 4}, {2, fighter, 4}, {0, 9, 4}, {0, fighter, 12}, {0, fighter, 1}, {0, fighter, 0}} {
			got, err := world.Place(k, w, c[0], c[1], c[2])
			if !alike(got, api.World{}) || plain.Told(err) != one.told {
				t.Errorf("fault %d, %s: got %v, %v; want %v", i, one.where, got, err, one.told)
			}
		}
	}
	w := few()
	w.Next = 1000000
	w.Gold[0] = -1
	if _, err := world.Place(sorts(), w, 0, fighter, 4); plain.Told(err) != api.ErrRange {
		t.Errorf("Next and Gold: got %v", err)
	}
}

// TestPlaceTwo: S1, which error is told where two meet.
func TestPlaceTwo(t *testing.T) {
	last := few()
	last.Next = 1000000
	for _, c := range []struct {
		name             string
		w                api.World
		player, kind, at int
		told             api.Errno
	}{
		{"full, no player", crowd(40), 2, base, 50, api.ErrFull},
		{"full, no kind", crowd(40), 0, 4, 50, api.ErrFull},
		{"full, no cell", crowd(40), 0, base, 144, api.ErrFull},
		{"full, a unit is there", crowd(40), 0, base, 0, api.ErrFull},
		{"no id, no player", last, -1, base, 4, api.ErrFull},
		{"no id, no kind", last, 0, -1, 4, api.ErrFull},
		{"no id, no cell", last, 0, base, -1, api.ErrFull},
		{"no id, rock", last, 0, base, 1, api.ErrFull},
		{"no player, no cell", few(), 2, base, 12, api.ErrRange},
		{"no player, no kind", few(), 2, 4, 4, api.ErrRange},
		{"no player, rock", few(), -1, base, 1, api.ErrRange},
		{"no player, a unit is there", few(), 2, base, 0, api.ErrRange},
		{"no kind, no cell", few(), 0, 4, -1, api.ErrRange},
		{"no kind, rock", few(), 0, -1, 1, api.ErrRange},
		{"no kind, a unit is there", few(), 0, 4, 11, api.ErrRange},
		{"all", last, 2, 4, 12, api.ErrFull},
	} {
		got, err := world.Place(sorts(), c.w, c.player, c.kind, c.at)
		if !alike(got, api.World{}) || plain.Told(err) != c.told {
			t.Errorf("%s: got %v, %v; want %v", c.name, got, err, c.told)
		}
	}
}

// TestFind: S3, each unit, and ids that are not there.
func TestFind(t *testing.T) {
	w := few()
	for i, u := range w.Units {
		if got := world.Find(w, u.Id); got != i {
			t.Errorf("id %d: got %d, want %d", u.Id, got, i)
		}
	}
	for _, id := range []int{0, 3, 6, 7, 9, -1, -8, 1 << 32, 1<<32 + 1, math.MaxInt, math.MinInt} {
		if got := world.Find(w, id); got != -1 {
			t.Errorf("id %d: got %d", id, got)
		}
	}
	for _, id := range []int{0, 1, -1} {
		if got := world.Find(api.World{}, id); got != -1 {
			t.Errorf("id %d of nobody: got %d", id, got)
		}
	}
	for i := range 40 {
		if got := world.Find(crowd(40), i+1); got != i {
			t.Errorf("id %d of 40: got %d", i+1, got)
		}
	}
}

// TestFindInWrong: S3, of a world that Check would refuse too, the first unit of that id.
func TestFindInWrong(t *testing.T) {
	w := api.World{Units: []api.Unit{{Id: 7}, {Id: -3}, {Id: 7}, {Id: math.MinInt}, {Id: 0}}}
	for id, want := range map[int]int{7: 0, -3: 1, math.MinInt: 3, 0: 4, 3: -1} {
		if got := world.Find(w, id); got != want {
			t.Errorf("id %d: got %d, want %d", id, got, want)
		}
	}
}

// hidden is a world of the same lists, with other things behind their lengths that may neither be read nor written; whole has them too.
func hidden(w api.World) (lists, whole api.World) {
	whole = copied(w)
	f := &whole.Field
	f.Ground, f.Ore, whole.Gold = append(f.Ground, 9, -9), append(f.Ore, 9, -9), append(whole.Gold, 7, -7)
	whole.Units = append(whole.Units, api.Unit{Id: 7, Player: -1}, api.Unit{Id: 6, At: 9})
	whole.Queue = append(whole.Queue, api.Job{Unit: 7}, api.Job{Left: -1})
	lists = whole
	lists.Field.Ground, lists.Field.Ore = f.Ground[:len(w.Field.Ground)], f.Ore[:len(w.Field.Ore)]
	lists.Gold, lists.Units, lists.Queue = whole.Gold[:len(w.Gold)], whole.Units[:len(w.Units)], whole.Queue[:len(w.Queue)]
	return lists, whole
}

// calls makes every call of the package, right and wrong ones.
func calls(k []api.Kind, w api.World) {
	for _, x := range [][3]int{{0, 2, 9}, {1, 3, 4}, {0, 0, 0}, {9, 0, 0}, {0, 9, 0}, {0, 0, 99}} {
		world.New(k, w.Field, x[0], x[1])
		world.Place(k, w, x[0], x[1], x[2])
	}
	world.Check(k, w)
	world.Decode(world.Encode(w))
	world.Sum(w)
	world.Find(w, 1)
	world.Copy(w)
}

// TestWorldsStay: P2 and P4, no call writes into what is handed in, nor behind it, nor reads there.
func TestWorldsStay(t *testing.T) {
	for _, w := range []api.World{few(), crowd(0), crowd(39), crowd(40), {}} {
		lists, whole := hidden(w)
		before := copied(whole)
		more := append(sorts(), api.Kind{Name: "gone"})
		k := more[:4]
		calls(k, lists)
		if !alike(lists, w) || !alike(whole, before) || !slices.Equal(more, append(sorts(), api.Kind{Name: "gone"})) {
			t.Errorf("%v became %v; whole %v", w, lists, whole)
		}
		got, err := world.Place(k, lists, 0, bird, 100)
		want, bad := world.Place(sorts(), w, 0, bird, 100)
		if !alike(got, want) || plain.Told(err) != plain.Told(bad) || plain.Told(world.Check(k, lists)) != plain.Told(world.Check(sorts(), w)) ||
			world.Sum(lists) != world.Sum(w) || world.Find(lists, 7) != world.Find(w, 7) || !slices.Equal(world.Encode(lists), world.Encode(w)) {
			t.Errorf("%v: what stands behind lists is read", w)
		}
	}
}

// spoil writes into all that a world's lists have, and behind them.
func spoil(w api.World) {
	for _, l := range [][]int{w.Field.Ground, w.Field.Ore, w.Gold} {
		l = l[:cap(l)]
		for i := range l {
			l[i] = -77
		}
	}
	for i := range w.Units[:cap(w.Units)] {
		w.Units[:cap(w.Units)][i] = api.Unit{Id: -77}
	}
	for i := range w.Queue[:cap(w.Queue)] {
		w.Queue[:cap(w.Queue)][i] = api.Job{Left: -77}
	}
}

// TestWorldsAreFresh: P2, what comes out shares no memory with what went in, nor with another answer.
func TestWorldsAreFresh(t *testing.T) {
	w, k := few(), sorts()
	b := world.Encode(w)
	answers := []func() api.World{
		func() api.World { x, _ := world.New(k, w.Field, 3, 9); return x },
		func() api.World { x, _ := world.Place(k, w, 1, bird, 4); return x },
		func() api.World { x, _, _ := world.Decode(b); return x },
		func() api.World { return world.Copy(w) },
	}
	for i, answer := range answers {
		first, second := answer(), answer()
		want := copied(second)
		spoil(first)
		if !alike(w, few()) || !alike(second, want) || !alike(answer(), want) {
			t.Errorf("call %d: what was written into an answer stands in %v or %v", i, w, second)
		}
	}
	b[0]++
	if again := world.Encode(w); again[0] == b[0] {
		t.Error("two answers of Encode share memory")
	}
}

// TestListsOfOneAnswer: P2, no two lists of one answer share any memory.
func TestListsOfOneAnswer(t *testing.T) {
	both := bare(3, 2)
	both.Ore = both.Ground
	shared := api.World{Next: 1, Field: both, Gold: both.Ground[:2]}
	began, _ := world.New(sorts(), both, 2, 0)
	more, _ := world.Place(sorts(), shared, 0, base, 3)
	read, _, _ := world.Decode(world.Encode(shared))
	for i, w := range []api.World{began, more, read, world.Copy(shared)} {
		lists := [][]int{w.Field.Ground, w.Field.Ore, w.Gold}
		for j, l := range lists {
			l = l[:cap(l)]
			for n := range l {
				l[n] = j + 1
			}
		}
		for j, l := range lists {
			if slices.Contains(l, 0) || slices.Min(l) != j+1 || slices.Max(l) != j+1 {
				t.Errorf("world %d: lists share memory: %v", i, lists)
			}
		}
	}
}

// TestCopy: a world that is alike, of any lists.
func TestCopy(t *testing.T) {
	for _, w := range []api.World{{}, few(), crowd(40), {Turn: -5, Gold: make([]int, 300), Queue: make([]api.Job, 3)}} {
		if got := world.Copy(w); !alike(got, w) {
			t.Errorf("got %v, want %v", got, w)
		}
	}
}
