package replay_test

import (
	"encoding/hex"
	"fmt"
	"math"
	"slices"
	"strings"
	"testing"

	"marchland/api"
	"marchland/field"
	"marchland/kinds"
	"marchland/orders"
	"marchland/plain"
	"marchland/replay"
	"marchland/turn"
	"marchland/world"
)

// The kinds of sorts, by their numbers.
const (
	base = iota
	digger
	fighter
	bird
)

// sorts are ordinary kinds.
func sorts() []api.Kind {
	return []api.Kind{
		{Name: "base", Life: 50, Sight: 4, Price: 50, Turns: 5, Trains: true},
		{Name: "digger", Life: 10, Sight: 3, Speed: 2, Price: 10, Turns: 2, Carry: 20},
		{Name: "fighter", Life: 20, Hit: 4, Range: 1, Sight: 4, Speed: 2, Price: 20, Turns: 3},
		{Name: "bird", Life: 8, Hit: 3, Range: 2, Sight: 5, Speed: 3, Price: 25, Turns: 3, Flies: true},
	}
}

// few is an ordinary world of sorts: who rests, gathers, marches and trains, and what is there to be gathered.
func few() api.World {
	f, _, _ := field.Parse("..^.\n.9#~\n....\n")
	return api.World{
		Turn: 6, Next: 9, Field: f, Gold: []int{100, 0, 35},
		Units: []api.Unit{
			{Id: 1, Player: 0, Kind: base, At: 1, Life: 50},
			{Id: 3, Player: 1, Kind: fighter, At: 11, Life: 7, Task: api.March, Goal: 8},
			{Id: 4, Player: 0, Kind: digger, At: 4, Life: 10, Load: 9, Task: api.Gather, Goal: 5},
			{Id: 6, Player: 1, Kind: bird, At: 7, Life: 1},
			{Id: 8, Player: 2, Kind: base, At: 8, Life: 49},
		},
		Queue: []api.Job{{Player: 2, Unit: 8, Kind: bird, Left: 3}, {Player: 0, Unit: 1, Kind: digger, Left: 1}},
	}
}

// played are turns of few, in which there is something of all that may be asked, and some that is refused.
func played() [][]api.Order {
	return [][]api.Order{
		{{Player: 0, Unit: 1, What: api.DoTrain, Arg: fighter}, {Player: 2, Unit: 8, What: api.DoTrain, Arg: digger}},
		nil,
		{{Player: 1, Unit: 3, What: api.DoMarch, Arg: 3}, {Player: 1, Unit: 6, What: api.DoMarch, Arg: 0}, {Player: 1, Unit: 3, What: api.DoStop}},
		{{Player: 0, Unit: 3, What: api.DoStop}, {Player: 0, Unit: 77, What: api.DoStop}, {Player: 3, Unit: 1, What: api.DoTrain, Arg: 99}, {Player: 0, Unit: 4, What: api.DoGather, Arg: 0}},
		{{Player: 0, Unit: 9, What: api.DoGather, Arg: 5}},
		nil,
	}
}

// bare is the least there may be: no kinds, one cell, one player.
func bare() api.World {
	return api.World{Next: 1, Field: api.Field{Wide: 1, High: 1, Ground: []int{0}, Ore: []int{0}}, Gold: []int{0}}
}

// great are as many kinds, with as great numbers, as there may be, and such a world of them.
func great() ([]api.Kind, api.World) {
	var k []api.Kind
	for i := range api.MaxKinds {
		k = append(k, api.Kind{
			Name: "abcdefg" + string(rune('a'+i)), Life: 1000, Hit: 1000, Range: api.MaxSide, Sight: api.MaxSide, Speed: 4,
			Price: 1000, Turns: 1000, Carry: 1000, Flies: true, Trains: true,
		})
	}
	cells := api.MaxSide * api.MaxSide
	w := api.World{
		Turn: api.MaxNumber, Next: api.MaxNumber, Gold: slices.Repeat([]int{api.MaxNumber}, api.MaxPlayers),
		Field: api.Field{Wide: api.MaxSide, High: api.MaxSide, Ground: make([]int, cells), Ore: slices.Repeat([]int{api.MaxNumber}, cells)},
	}
	for i := range api.MaxUnits {
		w.Units = append(w.Units, api.Unit{
			Id: api.MaxNumber - api.MaxUnits + i, Player: api.MaxPlayers - 1, Kind: api.MaxKinds - 1, At: cells - 1 - i,
			Life: 1000, Load: 1000, Task: api.Gather, Goal: cells - 1,
		})
	}
	for range api.MaxQueue {
		w.Queue = append(w.Queue, api.Job{Player: api.MaxPlayers - 1, Unit: api.MaxNumber - 1, Kind: api.MaxKinds - 1, Left: 1000})
	}
	return k, w
}

// most are as many orders, with as great numbers, as there may be.
func most() []api.Order {
	return slices.Repeat([]api.Order{{Player: api.MaxPlayers - 1, Unit: api.MaxNumber, What: api.DoTrain, Arg: api.MaxNumber}}, api.MaxOrders)
}

// asked are the orders of a turn: of each turn others, as many as leave no sorted list, and of each fourth none.
func asked(n int) []api.Order {
	l := []api.Order{
		{Player: 3 - n%3, Unit: 8 * n, What: api.DoMarch, Arg: n * n},
		{Player: 0, Unit: n, What: api.DoStop},
		{Player: 3 - n%3, Unit: 8 * n, What: api.DoMarch, Arg: n},
	}
	return l[:n%4]
}

func askedTurns(from, to int) (turns [][]api.Order) {
	for n := from; n < to; n++ {
		turns = append(turns, asked(n))
	}
	return turns
}

// game is what is written.
type game struct {
	name  string
	k     []api.Kind
	w     api.World
	turns [][]api.Order
}

// games are some that are right: ordinary ones, the least, the greatest, a late one, and turns with and without orders.
func games() []game {
	greatKinds, greatest := great()
	late := few()
	late.Turn = api.MaxNumber
	k := []api.Kind{{Name: "world", Life: 1}, {Name: "turn", Life: 2, Trains: true}, {Name: "train", Life: 3}, {Name: "w", Life: 4, Flies: true}}
	return []game{
		{"no turns", sorts(), few(), nil},
		{"no turns, an empty list", sorts(), few(), [][]api.Order{}},
		{"one without orders", sorts(), few(), [][]api.Order{nil}},
		{"one with an empty list of orders", sorts(), few(), [][]api.Order{{}}},
		{"one order", sorts(), few(), [][]api.Order{{{}}}},
		{"the first without orders", sorts(), few(), [][]api.Order{nil, asked(1), asked(2)}},
		{"one in the middle without orders", sorts(), few(), [][]api.Order{asked(1), nil, asked(2)}},
		{"the last without orders", sorts(), few(), [][]api.Order{asked(1), asked(2), nil}},
		{"all without orders", sorts(), few(), make([][]api.Order, 4)},
		{"what is played", sorts(), few(), played()},
		{"the most turns", sorts(), few(), askedTurns(0, api.MaxTurns)},
		{"the most turns, without orders", nil, bare(), make([][]api.Order, api.MaxTurns)},
		{"one turn less than the most", sorts(), few(), askedTurns(0, api.MaxTurns-1)},
		{"the most orders", sorts(), few(), [][]api.Order{most(), nil, make([]api.Order, api.MaxOrders), most()[:59]}},
		{"bare", nil, bare(), nil},
		{"bare, and turns", nil, bare(), askedTurns(3, 9)},
		{"bare, of kinds", sorts(), bare(), askedTurns(3, 9)},
		{"great", greatKinds, greatest, nil},
		{"great, and turns", greatKinds, greatest, [][]api.Order{most(), most()}},
		{"late", sorts(), late, askedTurns(0, 3)},
		{"kinds named as the text's words", k, bare(), askedTurns(0, 5)},
		{"one kind named world", k[:1], bare(), nil},
		{"one kind named turn", k[1:2], bare(), askedTurns(2, 3)},
	}
}

// told is a game as a text in which nil is an empty list.
func told(k []api.Kind, w api.World, turns [][]api.Order) string {
	return fmt.Sprintf("%+v\n%+v\n%v", k, w, turns)
}

var nothing = told(nil, api.World{}, nil)

func same(a, b api.World) bool { return fmt.Sprint(a) == fmt.Sprint(b) }

// text is what Export must write, put together by what the chapters ahead, and the library, write.
func (g game) text() string {
	text, _ := kinds.Print(g.k)
	text += "world " + hex.EncodeToString(world.Encode(g.w)) + "\n"
	for _, l := range g.turns {
		lines, _ := orders.Print(l)
		text += "turn\n" + lines
	}
	return text
}

func does(t *testing.T, err error) {
	t.Helper()
	if err != nil {
		t.Fatalf("got %v, want no error", err)
	}
}

// wrongOrders are lists of which each has one fault; the first one is ErrFull, all others are ErrRange.
func wrongOrders() [][]api.Order {
	l := [][]api.Order{append(most(), api.Order{})}
	for _, o := range []api.Order{
		{Player: -1}, {Player: api.MaxPlayers}, {Unit: -1}, {Unit: api.MaxNumber + 1}, {What: -1}, {What: 4},
		{What: api.DoMarch, Arg: -1}, {What: api.DoTrain, Arg: api.MaxNumber + 1}, {What: api.DoStop, Arg: 1},
		{Player: 1 << 62}, {Unit: math.MinInt}, {What: api.DoGather, Arg: math.MaxInt},
	} {
		l = append(l, []api.Order{o}, append(asked(3), o))
	}
	return l
}

func toldOfWrong(i int) api.Errno {
	if i == 0 {
		return api.ErrFull
	}
	return api.ErrRange
}

// fault is one thing that is wrong with sorts and few, and what is told of it.
type fault struct {
	name string
	told api.Errno
	make func(k *[]api.Kind, w *api.World)
}

func faultsOfKinds() []fault {
	return []fault{
		{"nine kinds", api.ErrFull, func(k *[]api.Kind, w *api.World) { *k = make([]api.Kind, 9) }},
		{"a kind without a name", api.ErrSyntax, func(k *[]api.Kind, w *api.World) { (*k)[3].Name = "" }},
		{"a name of nine letters", api.ErrSyntax, func(k *[]api.Kind, w *api.World) { (*k)[3].Name = "birdsbird" }},
		{"a name with a blank", api.ErrSyntax, func(k *[]api.Kind, w *api.World) { (*k)[3].Name = "b d" }},
		{"a name with a line's end", api.ErrSyntax, func(k *[]api.Kind, w *api.World) { (*k)[3].Name = "b\n" }},
		{"a kind twice", api.ErrClash, func(k *[]api.Kind, w *api.World) { (*k)[3].Name = "base" }},
		{"no Life", api.ErrRange, func(k *[]api.Kind, w *api.World) { (*k)[3].Life = 0 }},
		{"a Price below 0", api.ErrRange, func(k *[]api.Kind, w *api.World) { (*k)[1].Price = -1 }},
		{"Turns 1001", api.ErrRange, func(k *[]api.Kind, w *api.World) { (*k)[1].Turns = 1001 }},
		{"Speed 5", api.ErrRange, func(k *[]api.Kind, w *api.World) { (*k)[2].Speed = 5 }},
		{"Range 13", api.ErrRange, func(k *[]api.Kind, w *api.World) { (*k)[2].Range = 13 }},
	}
}

func faultsOfWorlds() []fault {
	return []fault{
		{"sides", api.ErrRange, func(k *[]api.Kind, w *api.World) { w.Field.Wide = 13 }},
		{"no lists of cells", api.ErrShape, func(k *[]api.Kind, w *api.World) { w.Field.Ground, w.Field.Ore = nil, nil }},
		{"a ground that is none", api.ErrRange, func(k *[]api.Kind, w *api.World) { w.Field.Ground[1] = 4 }},
		{"too much ore", api.ErrRange, func(k *[]api.Kind, w *api.World) { w.Field.Ore[5] = api.MaxNumber + 1 }},
		{"ore in forest", api.ErrState, func(k *[]api.Kind, w *api.World) { w.Field.Ore[2] = 1 }},
		{"a Turn below 0", api.ErrRange, func(k *[]api.Kind, w *api.World) { w.Turn = -1 }},
		{"a Turn beyond MaxNumber", api.ErrRange, func(k *[]api.Kind, w *api.World) { w.Turn = api.MaxNumber + 1 }},
		{"the greatest Turn", api.ErrRange, func(k *[]api.Kind, w *api.World) { w.Turn = math.MaxInt }},
		{"Next", api.ErrRange, func(k *[]api.Kind, w *api.World) { w.Next = 8 }},
		{"no players", api.ErrRange, func(k *[]api.Kind, w *api.World) { w.Gold = nil }},
		{"five players", api.ErrRange, func(k *[]api.Kind, w *api.World) { w.Gold = make([]int, 5) }},
		{"Gold", api.ErrRange, func(k *[]api.Kind, w *api.World) { w.Gold[2] = -1 }},
		{"41 units", api.ErrFull, func(k *[]api.Kind, w *api.World) { w.Units = append(w.Units, make([]api.Unit, 36)...) }},
		{"an id twice", api.ErrOrder, func(k *[]api.Kind, w *api.World) { w.Units[3].Id = 4 }},
		{"a player that is none", api.ErrRange, func(k *[]api.Kind, w *api.World) { w.Units[4].Player = 3 }},
		{"a kind that is none", api.ErrRange, func(k *[]api.Kind, w *api.World) { w.Units[4].Kind = -1 }},
		{"no kinds", api.ErrRange, func(k *[]api.Kind, w *api.World) { *k = nil }},
		{"one kind less", api.ErrRange, func(k *[]api.Kind, w *api.World) { *k = (*k)[:3] }},
		{"a Life of 0", api.ErrRange, func(k *[]api.Kind, w *api.World) { w.Units[0].Life = 0 }},
		{"a Load beyond Carry", api.ErrRange, func(k *[]api.Kind, w *api.World) { w.Units[2].Load = 21 }},
		{"a Task that is none", api.ErrRange, func(k *[]api.Kind, w *api.World) { w.Units[1].Task = 3 }},
		{"At is no cell", api.ErrNone, func(k *[]api.Kind, w *api.World) { w.Units[1].At = 12 }},
		{"Goal is no cell", api.ErrNone, func(k *[]api.Kind, w *api.World) { w.Units[1].Goal = -1 }},
		{"on rock", api.ErrState, func(k *[]api.Kind, w *api.World) { w.Units[3].At = 6 }},
		{"two on a cell", api.ErrState, func(k *[]api.Kind, w *api.World) { w.Units[3].At = 1 }},
		{"a Goal at rest", api.ErrState, func(k *[]api.Kind, w *api.World) { w.Units[0].Goal = 1 }},
		{"13 jobs", api.ErrFull, func(k *[]api.Kind, w *api.World) { w.Queue = slices.Repeat(w.Queue[:1], 13) }},
		{"a job of nobody", api.ErrNone, func(k *[]api.Kind, w *api.World) { w.Queue[1].Unit = 2 }},
		{"a job of another's", api.ErrState, func(k *[]api.Kind, w *api.World) { w.Queue[1].Player = 1 }},
		{"a job at one that does not train", api.ErrState, func(k *[]api.Kind, w *api.World) { w.Queue[1].Unit = 4 }},
		{"a job of a kind that is none", api.ErrRange, func(k *[]api.Kind, w *api.World) { w.Queue[1].Kind = 4 }},
		{"Left 0", api.ErrRange, func(k *[]api.Kind, w *api.World) { w.Queue[1].Left = 0 }},
	}
}

func faults() []fault { return append(faultsOfKinds(), faultsOfWorlds()...) }

// wrong are sorts and few with these faults.
func wrong(l ...fault) ([]api.Kind, api.World) {
	k, w := sorts(), few()
	for _, f := range l {
		f.make(&k, &w)
	}
	return k, w
}

// refused asks Export, Sums and Seek of a game, all of which must tell the same, and nothing beside it.
func refused(t *testing.T, name string, k []api.Kind, w api.World, turns [][]api.Order, want api.Errno) {
	t.Helper()
	noExport(t, name, k, w, turns, want)
	noPlay(t, name, k, w, turns, want)
}

func noExport(t *testing.T, name string, k []api.Kind, w api.World, turns [][]api.Order, want api.Errno) {
	t.Helper()
	if text, err := replay.Export(k, w, turns); text != "" || plain.Told(err) != want {
		t.Errorf("%s: Export: got %q, %v; want %v", name, text, err, want)
	}
}

// noPlay asks Sums, and Seek behind the last turn, and holds that Play tells the same.
func noPlay(t *testing.T, name string, k []api.Kind, w api.World, turns [][]api.Order, want api.Errno) {
	t.Helper()
	if _, err := turn.Play(k, w, turns); plain.Told(err) != want {
		t.Errorf("%s: Play tells %v, and not %v", name, err, want)
	}
	if sums, err := replay.Sums(k, w, turns); len(sums) != 0 || plain.Told(err) != want {
		t.Errorf("%s: Sums: got %v, %v; want %v", name, sums, err, want)
	}
	noSeek(t, name, k, w, turns, len(turns), want)
}

func noSeek(t *testing.T, name string, k []api.Kind, w api.World, turns [][]api.Order, n int, want api.Errno) {
	t.Helper()
	if got, err := replay.Seek(k, w, turns, n); !same(got, api.World{}) || plain.Told(err) != want {
		t.Errorf("%s: Seek %d: got %v, %v; want %v", name, n, got, err, want)
	}
}

// TestScene: so that what is asked below is asked of games that are right, and of the greatest.
func TestScene(t *testing.T) {
	for _, g := range games() {
		if err := world.Check(g.k, g.w); err != nil {
			t.Errorf("%s: got %v", g.name, err)
		}
	}
	k, w := great()
	if long := len(world.Encode(w)); long < 1200 {
		t.Errorf("the greatest world has %d bytes", long)
	}
	if text, _ := kinds.Print(k); strings.Count(text, "1000") != 5*api.MaxKinds {
		t.Errorf("the greatest kinds are %q", text)
	}
}
