package hall_test

import (
	"fmt"
	"math"
	"slices"
	"testing"

	"marchland/api"
	"marchland/field"
	"marchland/hall"
	"marchland/plain"
	"marchland/world"
)

// The kinds of sorts, by their numbers.
const (
	base = iota
	digger
	fighter
	bird
)

// sorts are ordinary kinds.
func sorts() []api.Kind {
	return []api.Kind{
		{Name: "base", Life: 50, Sight: 4, Price: 50, Turns: 5, Trains: true},
		{Name: "digger", Life: 10, Sight: 3, Speed: 2, Price: 10, Turns: 2, Carry: 20},
		{Name: "fighter", Life: 20, Hit: 4, Range: 1, Sight: 4, Speed: 2, Price: 20, Turns: 3},
		{Name: "bird", Life: 8, Hit: 3, Range: 2, Sight: 5, Speed: 3, Price: 25, Turns: 3, Flies: true},
	}
}

// few is an ordinary world of sorts, of three players: who rests, gathers, marches and trains, and what is there to be gathered.
func few() api.World {
	f, _, _ := field.Parse("..^.\n.9#~\n....\n")
	return api.World{
		Turn: 6, Next: 9, Field: f, Gold: []int{100, 0, 35},
		Units: []api.Unit{
			{Id: 1, Player: 0, Kind: base, At: 1, Life: 50},
			{Id: 3, Player: 1, Kind: fighter, At: 11, Life: 7, Task: api.March, Goal: 8},
			{Id: 4, Player: 0, Kind: digger, At: 4, Life: 10, Load: 9, Task: api.Gather, Goal: 5},
			{Id: 6, Player: 1, Kind: bird, At: 7, Life: 1},
			{Id: 8, Player: 2, Kind: base, At: 8, Life: 49},
		},
		Queue: []api.Job{{Player: 2, Unit: 8, Kind: bird, Left: 3}, {Player: 0, Unit: 1, Kind: digger, Left: 1}},
	}
}

// late is few at a turn.
func late(at int) api.World {
	w := few()
	w.Turn = at
	return w
}

// bare is the least there may be: no kinds, one cell, one player.
func bare() api.World { return empty(1) }

// empty is a world of one cell, for so many players.
func empty(players int) api.World {
	return api.World{Next: 1, Field: api.Field{Wide: 1, High: 1, Ground: []int{0}, Ore: []int{0}}, Gold: make([]int, players)}
}

// great are as many kinds, with as great numbers, as there may be, and such a world of them.
func great() ([]api.Kind, api.World) {
	var k []api.Kind
	for i := range api.MaxKinds {
		k = append(k, api.Kind{
			Name: "abcdefg" + string(rune('a'+i)), Life: 1000, Hit: 1000, Range: api.MaxSide, Sight: api.MaxSide, Speed: 4,
			Price: 1000, Turns: 1000, Carry: 1000, Flies: true, Trains: true,
		})
	}
	cells := api.MaxSide * api.MaxSide
	w := api.World{
		Turn: api.MaxNumber - 1, Next: api.MaxNumber, Gold: slices.Repeat([]int{api.MaxNumber}, api.MaxPlayers),
		Field: api.Field{Wide: api.MaxSide, High: api.MaxSide, Ground: make([]int, cells), Ore: slices.Repeat([]int{api.MaxNumber}, cells)},
	}
	for i := range api.MaxUnits {
		w.Units = append(w.Units, api.Unit{
			Id: api.MaxNumber - api.MaxUnits + i, Player: api.MaxPlayers - 1, Kind: api.MaxKinds - 1, At: cells - 1 - i,
			Life: 1000, Load: 1000, Task: api.Gather, Goal: cells - 1,
		})
	}
	for range api.MaxQueue {
		w.Queue = append(w.Queue, api.Job{Player: api.MaxPlayers - 1, Unit: api.MaxNumber - 1, Kind: api.MaxKinds - 1, Left: 1000})
	}
	return k, w
}

func order(player, unit, what, arg int) api.Order {
	return api.Order{Player: player, Unit: unit, What: what, Arg: arg}
}

func stop(player, unit int) api.Order        { return order(player, unit, api.DoStop, 0) }
func march(player, unit, arg int) api.Order  { return order(player, unit, api.DoMarch, arg) }
func gather(player, unit, arg int) api.Order { return order(player, unit, api.DoGather, arg) }
func train(player, unit, arg int) api.Order  { return order(player, unit, api.DoTrain, arg) }

// some are so many orders of a player, each for a unit of its own, in the order in which Last puts them.
func some(player, many int) (l []api.Order) {
	for i := range many {
		l = append(l, march(player, i, 7))
	}
	return l
}

// asked are what the three players of few ask, turn by turn: something of all that may be asked, some that is refused, and none at all.
func asked() [][][]api.Order {
	return [][][]api.Order{
		{{train(0, 1, fighter)}, nil, {train(2, 8, digger)}},
		{nil, nil, nil},
		{{stop(0, 3)}, {march(1, 3, 3), march(1, 6, 0), stop(1, 3)}, {stop(2, 8), march(2, 8, 3)}},
		{{gather(0, 4, 0), stop(0, 77)}, {gather(1, 3, 5)}, {train(2, 1, 99), train(2, 8, base)}},
		{{gather(0, 9, 5)}, {march(1, 3, 9)}, nil},
		{nil, {stop(1, 6)}, nil},
		{{march(0, 9, 4), march(0, 4, 0)}, nil, {march(2, 10, 10), march(2, 10, 9)}},
		{nil, nil, nil},
	}
}

func does(t *testing.T, err error) {
	t.Helper()
	if err != nil {
		t.Fatalf("got %v, want no error", err)
	}
}

func tells(t *testing.T, name string, err error, want api.Errno) {
	t.Helper()
	if plain.Told(err) != want {
		t.Errorf("%s: got %v, want %v", name, err, want)
	}
}

// of is a hall with few, of this delay, as "few", and bare as "bare".
func of(t *testing.T, delay int) *hall.Hall {
	t.Helper()
	h := hall.New()
	does(t, h.Create("few", sorts(), few(), delay))
	does(t, h.Create("bare", nil, bare(), 0))
	return h
}

// sends sends one list of each player.
func sends(t *testing.T, h *hall.Hall, name string, lists ...[]api.Order) {
	t.Helper()
	for player, l := range lists {
		if err := h.Send(name, player, l); err != nil {
			t.Fatalf("%s: Send of %d, %v: got %v", name, player, l, err)
		}
	}
}

// ticks plays a turn that is ready.
func ticks(t *testing.T, h *hall.Hall, name string) {
	t.Helper()
	if ok, err := h.Tick(name); !ok || err != nil {
		t.Fatalf("%s: Tick: got %v, %v", name, ok, err)
	}
}

// waits asks for a turn that is not ready.
func waits(t *testing.T, h *hall.Hall, name string) {
	t.Helper()
	before := told(h)
	for range 2 {
		if ok, err := h.Tick(name); ok || err != nil {
			t.Fatalf("%s: Tick: got %v, %v; want false", name, ok, err)
		}
		if after := told(h); after != before {
			t.Fatalf("%s: Tick tells false, and from %s comes %s", name, before, after)
		}
	}
}

// stuck asks for a turn that is ready and refused.
func stuck(t *testing.T, h *hall.Hall, name string, want api.Errno) {
	t.Helper()
	before := told(h)
	for range 3 {
		if ok, err := h.Tick(name); ok || plain.Told(err) != want {
			t.Fatalf("%s: Tick: got %v, %v; want %v", name, ok, err, want)
		}
		if after := told(h); after != before {
			t.Fatalf("%s: Tick tells %v, and from %s comes %s", name, want, before, after)
		}
	}
}

func stands(t *testing.T, h *hall.Hall, name string) api.World {
	t.Helper()
	w, err := h.World(name)
	does(t, err)
	return w
}

func turns(t *testing.T, h *hall.Hall, name string) [][]api.Order {
	t.Helper()
	l, err := h.Turns(name)
	does(t, err)
	return l
}

// told is all that a hall tells without being changed, as text.
func told(h *hall.Hall) (text string) {
	for _, name := range h.Names() {
		w, err := h.World(name)
		l, ill := h.Turns(name)
		text += fmt.Sprintf("%s: %+v, %v; %v, %v\n", name, w, err, l, ill)
		for player := -1; player <= len(w.Gold); player++ {
			v, err := h.View(name, player)
			text += fmt.Sprintf("%d: %+v, %v\n", player, v, err)
		}
	}
	return text
}

func same(a, b api.World) bool { return fmt.Sprint(a) == fmt.Sprint(b) }

func sameTurns(a, b [][]api.Order) bool {
	return slices.EqualFunc(a, b, func(a, b []api.Order) bool { return slices.Equal(a, b) })
}

// wrongOrders are lists of which each has one fault by chapter 6's Check, all else being orders of the player 1.
func wrongOrders() (l []wrong) {
	for _, o := range []api.Order{
		march(-1, 0, 0), march(4, 0, 0), march(math.MinInt, 0, 0), march(math.MaxInt, 0, 0),
		march(1, -1, 0), march(1, 1000001, 0), march(1, 0, -1), march(1, 0, 1000001), march(1, 0, math.MinInt),
		order(1, 0, -1, 0), order(1, 0, 4, 0), order(1, 0, api.DoStop, 1), order(1, 0, api.DoStop, -1),
	} {
		l = append(l, wrong{[]api.Order{o}, api.ErrRange}, wrong{[]api.Order{stop(1, 2), o, stop(1, 3)}, api.ErrRange},
			wrong{append(some(1, 59), o), api.ErrRange}, wrong{append(some(1, 60), o), api.ErrFull})
	}
	return append(l, wrong{some(1, 61), api.ErrFull}, wrong{some(1, 200), api.ErrFull}, wrong{slices.Repeat([]api.Order{stop(1, 1)}, 61), api.ErrFull})
}

type wrong struct {
	l    []api.Order
	told api.Errno
}

// fault is one thing that is wrong with sorts and few, and what is told of it.
type fault struct {
	name string
	told api.Errno
	make func(k *[]api.Kind, w *api.World)
}

func faultsOfKinds() []fault {
	return []fault{
		{"nine kinds", api.ErrFull, func(k *[]api.Kind, w *api.World) { *k = make([]api.Kind, 9) }},
		{"a kind without a name", api.ErrSyntax, func(k *[]api.Kind, w *api.World) { (*k)[3].Name = "" }},
		{"a kind's name of nine letters", api.ErrSyntax, func(k *[]api.Kind, w *api.World) { (*k)[3].Name = "birdsbird" }},
		{"a kind's name with a blank", api.ErrSyntax, func(k *[]api.Kind, w *api.World) { (*k)[3].Name = "b d" }},
		{"a kind twice", api.ErrClash, func(k *[]api.Kind, w *api.World) { (*k)[3].Name = "base" }},
		{"no Life", api.ErrRange, func(k *[]api.Kind, w *api.World) { (*k)[3].Life = 0 }},
		{"a Price below 0", api.ErrRange, func(k *[]api.Kind, w *api.World) { (*k)[1].Price = -1 }},
		{"Turns 1001", api.ErrRange, func(k *[]api.Kind, w *api.World) { (*k)[1].Turns = 1001 }},
		{"Speed 5", api.ErrRange, func(k *[]api.Kind, w *api.World) { (*k)[2].Speed = 5 }},
		{"Range 13", api.ErrRange, func(k *[]api.Kind, w *api.World) { (*k)[2].Range = 13 }},
		{"Sight 13", api.ErrRange, func(k *[]api.Kind, w *api.World) { (*k)[0].Sight = 13 }},
	}
}

func faultsOfWorlds() []fault {
	return []fault{
		{"sides", api.ErrRange, func(k *[]api.Kind, w *api.World) { w.Field.Wide = 13 }},
		{"no lists of cells", api.ErrShape, func(k *[]api.Kind, w *api.World) { w.Field.Ground, w.Field.Ore = nil, nil }},
		{"a ground that is none", api.ErrRange, func(k *[]api.Kind, w *api.World) { w.Field.Ground[1] = 4 }},
		{"too much ore", api.ErrRange, func(k *[]api.Kind, w *api.World) { w.Field.Ore[5] = api.MaxNumber + 1 }},
		{"ore in forest", api.ErrState, func(k *[]api.Kind, w *api.World) { w.Field.Ore[2] = 1 }},
		{"a Turn below 0", api.ErrRange, func(k *[]api.Kind, w *api.World) { w.Turn = -1 }},
		{"a Turn beyond MaxNumber", api.ErrRange, func(k *[]api.Kind, w *api.World) { w.Turn = api.MaxNumber + 1 }},
		{"Next", api.ErrRange, func(k *[]api.Kind, w *api.World) { w.Next = 8 }},
		{"no players", api.ErrRange, func(k *[]api.Kind, w *api.World) { w.Gold = nil }},
		{"five players", api.ErrRange, func(k *[]api.Kind, w *api.World) { w.Gold = make([]int, 5) }},
		{"Gold", api.ErrRange, func(k *[]api.Kind, w *api.World) { w.Gold[2] = -1 }},
		{"41 units", api.ErrFull, func(k *[]api.Kind, w *api.World) { w.Units = append(w.Units, make([]api.Unit, 36)...) }},
		{"an id twice", api.ErrOrder, func(k *[]api.Kind, w *api.World) { w.Units[3].Id = 4 }},
		{"a unit of a player that is none", api.ErrRange, func(k *[]api.Kind, w *api.World) { w.Units[4].Player = 3 }},
		{"a unit of a kind that is none", api.ErrRange, func(k *[]api.Kind, w *api.World) { w.Units[4].Kind = -1 }},
		{"no kinds", api.ErrRange, func(k *[]api.Kind, w *api.World) { *k = nil }},
		{"one kind less", api.ErrRange, func(k *[]api.Kind, w *api.World) { *k = (*k)[:3] }},
		{"a Life of 0", api.ErrRange, func(k *[]api.Kind, w *api.World) { w.Units[0].Life = 0 }},
		{"a Load beyond Carry", api.ErrRange, func(k *[]api.Kind, w *api.World) { w.Units[2].Load = 21 }},
		{"a Task that is none", api.ErrRange, func(k *[]api.Kind, w *api.World) { w.Units[1].Task = 3 }},
		{"At is no cell", api.ErrNone, func(k *[]api.Kind, w *api.World) { w.Units[1].At = 12 }},
		{"Goal is no cell", api.ErrNone, func(k *[]api.Kind, w *api.World) { w.Units[1].Goal = -1 }},
		{"on rock", api.ErrState, func(k *[]api.Kind, w *api.World) { w.Units[3].At = 6 }},
		{"two on a cell", api.ErrState, func(k *[]api.Kind, w *api.World) { w.Units[3].At = 1 }},
		{"a Goal at rest", api.ErrState, func(k *[]api.Kind, w *api.World) { w.Units[0].Goal = 1 }},
		{"13 jobs", api.ErrFull, func(k *[]api.Kind, w *api.World) { w.Queue = slices.Repeat(w.Queue[:1], 13) }},
		{"a job of nobody", api.ErrNone, func(k *[]api.Kind, w *api.World) { w.Queue[1].Unit = 2 }},
		{"a job of another's", api.ErrState, func(k *[]api.Kind, w *api.World) { w.Queue[1].Player = 1 }},
		{"a job at one that does not train", api.ErrState, func(k *[]api.Kind, w *api.World) { w.Queue[1].Unit = 4 }},
		{"a job of a kind that is none", api.ErrRange, func(k *[]api.Kind, w *api.World) { w.Queue[1].Kind = 4 }},
		{"Left 0", api.ErrRange, func(k *[]api.Kind, w *api.World) { w.Queue[1].Left = 0 }},
	}
}

func faults() []fault { return append(faultsOfKinds(), faultsOfWorlds()...) }

// faulty are sorts and few with these faults.
func faulty(l ...fault) ([]api.Kind, api.World) {
	k, w := sorts(), few()
	for _, f := range l {
		f.make(&k, &w)
	}
	return k, w
}

// wrongDelays are delays that chapter 15's New refuses.
func wrongDelays() []int { return []int{-1, 21, -20, 1000, math.MinInt, math.MaxInt} }

// TestScene: so that what is asked below is asked of worlds that are right, and each fault is one.
func TestScene(t *testing.T) {
	greatKinds, greatest := great()
	does(t, world.Check(greatKinds, greatest))
	does(t, world.Check(sorts(), few()))
	does(t, world.Check(nil, bare()))
	does(t, world.Check(sorts(), late(api.MaxNumber)))
	for _, f := range faults() {
		k, w := faulty(f)
		tells(t, f.name, world.Check(k, w), f.told)
	}
}
