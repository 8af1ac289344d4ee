package feed_test

import (
	"bytes"
	"math"
	"slices"
	"strconv"
	"testing"

	"marchland/api"
	"marchland/feed"
	"marchland/field"
	"marchland/orders"
	"marchland/plain"
	"marchland/sight"
	"marchland/turn"
	"marchland/world"
)

// Numbers of the kinds.
const (
	base = iota
	digger
	fighter
	bird
)

func sorts() []api.Kind {
	return []api.Kind{
		{Name: "base", Life: 50, Sight: 4, Price: 50, Turns: 5, Trains: true},
		{Name: "digger", Life: 10, Sight: 3, Speed: 2, Price: 10, Turns: 2, Carry: 20},
		{Name: "fighter", Life: 20, Hit: 4, Range: 1, Sight: 4, Speed: 2, Price: 20, Turns: 3},
		{Name: "bird", Life: 8, Hit: 3, Range: 2, Sight: 5, Speed: 3, Price: 25, Turns: 3, Flies: true},
	}
}

// ground is the field of a text.
func ground(t *testing.T, text string) api.Field {
	t.Helper()
	f, at, err := field.Parse(text)
	if err != nil {
		t.Fatalf("Parse(%q): %v at %d", text, err, at)
	}
	return f
}

func right(t *testing.T, k []api.Kind, w api.World) {
	t.Helper()
	if err := world.Check(k, w); err != nil {
		t.Fatalf("%v: Check says %v", w, err)
	}
}

// near is a world of two players that see each other, and all ore; its bytes are
// 0: Turn, 1: Next, 2 and 3: sides, 4 to 8: grounds, 9 to 13: ore, 14 to 16: Golds, 17: how many units, 18 to 25: the first, 26 to 33: the second, 34: jobs.
func near(t *testing.T) api.World {
	t.Helper()
	w := api.World{Turn: 5, Next: 9, Field: ground(t, "...2\n"), Gold: []int{5, 7}, Units: []api.Unit{
		{Id: 1, Player: 0, Kind: base, At: 0, Life: 50},
		{Id: 2, Player: 1, Kind: digger, At: 1, Life: 10},
	}}
	right(t, sorts(), w)
	return w
}

// parted is near, with a wall between the two, behind which the ore is; neither sees the unit of the other, so that the bytes of its own are 18 to 25, and that of jobs is 26.
func parted(t *testing.T) api.World {
	t.Helper()
	w := near(t)
	w.Field = ground(t, ".#.2\n")
	w.Units[1].At = 2
	right(t, sorts(), w)
	return w
}

// tale is what becomes of a world, and what news that is for both players.
type tale struct {
	name string
	w    api.World
	make func(w *api.World)
	want [2][]api.Change
}

func tales(t *testing.T) []tale {
	hired := []api.Job{{Player: 0, Unit: 1, Kind: bird, Left: 3}}
	// That of jobs now stands at the place of the Id of the unit that fell; who has nobody left sees neither units nor ore.
	fallen := slices.Concat(one(17, 4, 2), one(26, 4, 0), take(27, 2, 2, 2, 20, 0, 0, 0, 0))
	lost := slices.Concat(one(13, 40, 0), one(17, 4, 0), one(18, 2, 0), take(19, 0, 0, 0, 100, 0, 0, 0, 4, 2, 2, 2, 20, 0, 0, 0, 0))
	return []tale{
		{"nothing", near(t), func(w *api.World) {}, [2][]api.Change{}},
		{"nothing, parted", parted(t), func(w *api.World) {}, [2][]api.Change{}},
		{"Turn", near(t), func(w *api.World) { w.Turn++ }, [2][]api.Change{one(0, 10, 12), one(0, 10, 12)}},
		{"Next", parted(t), func(w *api.World) { w.Next++ }, [2][]api.Change{one(1, 18, 20), one(1, 18, 20)}},
		{"Gold of player 0", near(t), func(w *api.World) { w.Gold[0] = 6 }, [2][]api.Change{one(15, 10, 12), nil}},
		{"Gold of player 1", near(t), func(w *api.World) { w.Gold[1] = 0 }, [2][]api.Change{nil, one(16, 14, 0)}},
		{"a wound that both see", near(t), func(w *api.World) { w.Units[1].Life = 9 }, [2][]api.Change{one(30, 20, 18), one(30, 20, 18)}},
		{"a wound that the other one does not see", parted(t), func(w *api.World) { w.Units[1].Life = 9 }, [2][]api.Change{nil, one(22, 20, 18)}},
		{"a load, a task and a goal", near(t), func(w *api.World) { w.Units[1].Load, w.Units[1].Task, w.Units[1].Goal = 3, api.Gather, 3 },
			[2][]api.Change{{{At: 31, Old: 0, New: 6}, {At: 32, Old: 0, New: 4}, {At: 33, Old: 0, New: 6}}, {{At: 31, Old: 0, New: 6}, {At: 32, Old: 0, New: 4}, {At: 33, Old: 0, New: 6}}}},
		{"a step that the other one does not see", parted(t), func(w *api.World) { w.Units[1].At = 3 }, [2][]api.Change{nil, one(21, 4, 6)}},
		{"ore that both see", near(t), func(w *api.World) { w.Field.Ore[3] = 10 }, [2][]api.Change{one(13, 40, 20), one(13, 40, 20)}},
		{"ore that one does not see", parted(t), func(w *api.World) { w.Field.Ore[3] = 0 }, [2][]api.Change{nil, one(13, 40, 0)}},
		{"a job of player 0", near(t), func(w *api.World) { w.Queue = hired }, [2][]api.Change{slices.Concat(one(34, 0, 2), put(35, 0, 2, 6, 6)), nil}},
		{"the only one of player 1 falls", near(t), func(w *api.World) { w.Units = w.Units[:1] }, [2][]api.Change{fallen, lost}},
	}
}

// TestNews: E2, where the bytes of both worlds are unlike, as the player sees them: by hand, there and back.
func TestNews(t *testing.T) {
	for _, c := range tales(t) {
		after := world.Copy(c.w)
		c.make(&after)
		right(t, sorts(), after)
		for player, want := range c.want {
			if got, err := feed.News(sorts(), c.w, after, player); !slices.Equal(got, want) || err != nil {
				t.Errorf("%s, player %d: got %v, %v; want %v", c.name, player, got, err, want)
			}
			if got, err := feed.News(sorts(), after, c.w, player); !slices.Equal(got, back(want)) || err != nil {
				t.Errorf("%s, player %d, back: got %v, %v; want %v", c.name, player, got, err, back(want))
			}
		}
	}
}

// bytesFor is what a player has of a world.
func bytesFor(t *testing.T, w api.World, player int) []byte {
	t.Helper()
	v, err := sight.View(sorts(), w, player)
	if err != nil {
		t.Fatalf("%v, player %d: View says %v", w, player, err)
	}
	return world.Encode(v)
}

// begun is a game of three players, of whom two see little of each other.
func begun(t *testing.T) api.World {
	t.Helper()
	w, err := world.New(sorts(), ground(t, "....#...\n.9..#.5.\n....^...\n..~~^...\n"), 3, 60)
	for _, u := range [][3]int{{0, base, 0}, {1, base, 7}, {0, digger, 1}, {1, digger, 6}, {2, bird, 26}, {0, fighter, 16}, {1, fighter, 23}} {
		if err == nil {
			w, err = world.Place(sorts(), w, u[0], u[1], u[2])
		}
	}
	if err != nil {
		t.Fatal(err)
	}
	return w
}

// TestNewsOfAGame: E2, turn by turn: of what a player had, and its news, what it has comes; also of news that were packed, and of two turns that are apart.
func TestNewsOfAGame(t *testing.T) {
	asked, line, err := orders.Parse("0 1 train 2\n0 3 gather 9\n0 6 march 31\n1 2 train 3\n1 4 gather 14\n1 7 march 24\n2 5 march 7\n")
	if err != nil {
		t.Fatalf("line %d: %v", line, err)
	}
	first := begun(t)
	before, parts := first, 0
	for i := range 14 {
		after, _, err := turn.Step(sorts(), before, asked)
		if err != nil {
			t.Fatal(err)
		}
		if asked = nil; slices.Equal(bytesFor(t, after, 0), bytesFor(t, after, 1)) {
			t.Errorf("turn %d: both see the same", i)
		}
		for player := range 3 {
			had, has := bytesFor(t, before, player), bytesFor(t, after, player)
			l, err := feed.News(sorts(), before, after, player)
			if !slices.Equal(l, wantDiff(had, has)) || err != nil {
				t.Fatalf("turn %d, player %d: got %v, %v", i, player, l, err)
			}
			b, _ := feed.Pack(l)
			told, _, _ := feed.Unpack(b)
			if got, err := feed.Apply(had, told); !bytes.Equal(got, has) || err != nil {
				t.Errorf("turn %d, player %d: of the news comes %v, %v; want %v", i, player, got, err, has)
			}
			far, err := feed.News(sorts(), first, after, player)
			if got, bad := feed.Apply(bytesFor(t, first, player), far); !bytes.Equal(got, has) || err != nil || bad != nil {
				t.Errorf("turn %d, player %d: since the first one: %v, %v, %v", i, player, got, err, bad)
			}
			parts += len(l)
		}
		before = after
	}
	if came, fell := before.Next > first.Next, len(before.Units) < before.Next-1; !came || !fell || parts < 100 {
		t.Errorf("too little has happened: %v, %d changes", before, parts)
	}
}

// TestNewsOfOneself: E2, of a world and itself there is none, for whoever plays.
func TestNewsOfOneself(t *testing.T) {
	for _, w := range []api.World{near(t), parted(t), begun(t)} {
		for player := range w.Gold {
			if got, err := feed.News(sorts(), w, world.Copy(w), player); len(got) != 0 || err != nil {
				t.Errorf("%v, player %d: got %v, %v", w, player, got, err)
			}
		}
	}
}

// greatest is a world in which all that has bytes has as many as it may.
func greatest() ([]api.Kind, api.World) {
	k := []api.Kind{{Name: "greatest", Life: 1000, Sight: 12, Carry: 1000, Flies: true, Trains: true}}
	w := api.World{Turn: api.MaxNumber, Next: api.MaxNumber, Gold: slices.Repeat([]int{api.MaxNumber}, 4)}
	w.Field = api.Field{Wide: 12, High: 12, Ground: make([]int, 144), Ore: slices.Repeat([]int{api.MaxNumber}, 144)}
	for i := range 40 {
		w.Units = append(w.Units, api.Unit{Id: api.MaxNumber - 40 + i, At: 104 + i, Life: 1000, Load: 1000, Task: api.Gather, Goal: 143})
	}
	w.Queue = slices.Repeat([]api.Job{{Unit: api.MaxNumber - 1, Left: 1000}}, 12)
	return k, w
}

// TestNewsOfTheGreatest: E2, no world that is right has more bytes than a text may.
func TestNewsOfTheGreatest(t *testing.T) {
	k, w := greatest()
	right(t, k, w)
	small := api.World{Next: 1, Field: api.Field{Wide: 1, High: 1, Ground: []int{0}, Ore: []int{0}}, Gold: []int{0}}
	want, _ := sight.View(k, w, 0)
	l, err := feed.News(k, small, w, 0)
	if !slices.Equal(l, wantDiff(world.Encode(small), world.Encode(want))) || len(l) < 1000 || err != nil {
		t.Errorf("got %d changes, %v", len(l), err)
	}
}

// noPlayers are numbers that no player has, in whatever world.
var noPlayers = []int{-1, -2, 4, 5, 1 << 32, -1 << 32, math.MaxInt, math.MinInt}

// TestNewsOfNobody: E2, a player that is none, in both worlds, or in one.
func TestNewsOfNobody(t *testing.T) {
	w := near(t)
	three := world.Copy(w)
	three.Gold = append(three.Gold, 0)
	for _, player := range append([]int{2, 3}, noPlayers...) {
		refused(t, "none in both", sorts(), w, w, player, api.ErrRange)
	}
	refused(t, "none in the first", sorts(), w, three, 2, api.ErrRange)
	refused(t, "none in the second", sorts(), three, w, 2, api.ErrRange)
	if got, err := feed.News(sorts(), three, three, 2); len(got) != 0 || err != nil {
		t.Errorf("got %v, %v", got, err)
	}
}

func refused(t *testing.T, name string, k []api.Kind, a, b api.World, player int, told api.Errno) {
	t.Helper()
	if got, err := feed.News(k, a, b, player); got != nil || plain.Told(err) != told {
		t.Errorf("%s, player %d: got %v, %v; want %v", name, player, got, err, told)
	}
}

// fault is one thing that is wrong with near, and what is told of it.
type fault struct {
	name string
	told api.Errno
	make func(w *api.World)
}

func faults() []fault {
	return []fault{
		{"sides", api.ErrRange, func(w *api.World) { w.Field.Wide = 13 }},
		{"no lists of cells", api.ErrShape, func(w *api.World) { w.Field.Ground, w.Field.Ore = nil, nil }},
		{"ore in forest", api.ErrState, func(w *api.World) { w.Field.Ground[3] = api.Forest }},
		{"a Turn below 0", api.ErrRange, func(w *api.World) { w.Turn = -1 }},
		{"no players", api.ErrRange, func(w *api.World) { w.Gold = nil }},
		{"Gold below 0", api.ErrRange, func(w *api.World) { w.Gold[1] = -1 }},
		{"41 units", api.ErrFull, func(w *api.World) { w.Units = append(w.Units, make([]api.Unit, 39)...) }},
		{"an id twice", api.ErrOrder, func(w *api.World) { w.Units[1].Id = 1 }},
		{"no Life", api.ErrRange, func(w *api.World) { w.Units[1].Life = 0 }},
		{"At is no cell", api.ErrNone, func(w *api.World) { w.Units[1].At = 4 }},
		{"two on a cell", api.ErrState, func(w *api.World) { w.Units[1].At = 0 }},
		{"13 jobs", api.ErrFull, func(w *api.World) { w.Queue = slices.Repeat([]api.Job{{Unit: 1, Left: 1}}, 13) }},
		{"a job of nobody", api.ErrNone, func(w *api.World) { w.Queue = []api.Job{{Unit: 3, Left: 1}} }},
		{"Left 0", api.ErrRange, func(w *api.World) { w.Queue = []api.Job{{Unit: 1}} }},
	}
}

// TestNewsOfWrong: E2, what is wrong with the first world is told ahead of the player, and both ahead of what is wrong with the second.
func TestNewsOfWrong(t *testing.T) {
	for _, c := range faults() {
		good, bad := near(t), near(t)
		c.make(&bad)
		if err := world.Check(sorts(), bad); plain.Told(err) != c.told {
			t.Fatalf("%s: Check says %v", c.name, err)
		}
		for player := range 2 {
			refused(t, c.name+", the first", sorts(), bad, good, player, c.told)
			refused(t, c.name+", the second", sorts(), good, bad, player, c.told)
			for _, other := range faults() {
				second := near(t)
				other.make(&second)
				refused(t, c.name+", then "+other.name, sorts(), bad, second, player, c.told)
			}
		}
		for _, player := range append([]int{2, 3}, noPlayers...) {
			refused(t, c.name+", the first, and no player", sorts(), bad, good, player, c.told)
			refused(t, c.name+", the second, and no player", sorts(), good, bad, player, api.ErrRange)
		}
	}
	refused(t, "no world", sorts(), api.World{}, api.World{}, 0, api.ErrRange)
	refused(t, "no world, then one", sorts(), api.World{}, near(t), 0, api.ErrRange)
	refused(t, "a world, then none", sorts(), near(t), api.World{}, 0, api.ErrRange)
}

// TestNewsOfWrongKinds: E2, what is wrong with the kinds comes first of all.
func TestNewsOfWrongKinds(t *testing.T) {
	bad := near(t)
	bad.Units[1].At = 4
	nine := slices.Clone(sorts())
	for i := len(nine); i < 9; i++ {
		nine = append(nine, api.Kind{Name: "more" + strconv.Itoa(i), Life: 1})
	}
	nameless, twice := sorts(), sorts()
	nameless[3].Name, twice[3].Name = "", "base"
	for _, w := range []api.World{near(t), bad, {}} {
		for _, player := range []int{0, 1, 2, -1} {
			refused(t, "nine kinds", nine, w, near(t), player, api.ErrFull)
			refused(t, "a kind without a name", nameless, w, near(t), player, api.ErrSyntax)
			refused(t, "a kind twice", twice, w, bad, player, api.ErrClash)
		}
	}
	refused(t, "no kinds", nil, near(t), near(t), 0, api.ErrRange)
}
