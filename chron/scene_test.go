package chron_test

import (
	"fmt"
	"slices"
	"testing"

	"marchland/api"
	"marchland/chron"
	"marchland/field"
	"marchland/kinds"
	"marchland/plain"
	"marchland/tape"
	"marchland/world"
)

// The kinds of sorts, by their numbers.
const (
	base = iota
	digger
	fighter
	bird
)

// sorts are ordinary kinds.
func sorts(t *testing.T) []api.Kind {
	t.Helper()
	k, _, err := kinds.Parse("base 50 0 0 4 0 50 5 0 - t\ndigger 10 0 0 3 2 10 2 20 - -\nfighter 20 4 1 4 2 20 3 0 - -\nbird 8 3 2 5 3 25 3 0 f -\n")
	does(t, err)
	return k
}

// few is an ordinary world of sorts: who rests, gathers, marches and trains, and what is there to be gathered.
func few(t *testing.T) api.World {
	t.Helper()
	f, _, err := field.Parse("..^.\n.9#~\n....\n")
	does(t, err)
	return api.World{
		Turn: 6, Next: 9, Field: f, Gold: []int{100, 0, 35},
		Units: []api.Unit{
			{Id: 1, Player: 0, Kind: base, At: 1, Life: 50},
			{Id: 3, Player: 1, Kind: fighter, At: 11, Life: 7, Task: api.March, Goal: 8},
			{Id: 4, Player: 0, Kind: digger, At: 4, Life: 10, Load: 9, Task: api.Gather, Goal: 5},
			{Id: 6, Player: 1, Kind: bird, At: 7, Life: 1},
			{Id: 8, Player: 2, Kind: base, At: 8, Life: 49},
		},
		Queue: []api.Job{{Player: 2, Unit: 8, Kind: bird, Left: 3}, {Player: 0, Unit: 1, Kind: digger, Left: 1}},
	}
}

// bare is the least there may be: no kinds, one cell, one player.
func bare() api.World {
	return api.World{Next: 1, Field: api.Field{Wide: 1, High: 1, Ground: []int{0}, Ore: []int{0}}, Gold: []int{0}}
}

// great are as many kinds, with as great numbers, as there may be, and such a world of them.
func great() ([]api.Kind, api.World) {
	var k []api.Kind
	for i := range api.MaxKinds {
		k = append(k, api.Kind{
			Name: "abcdefg" + string(rune('a'+i)), Life: 1000, Hit: 1000, Range: api.MaxSide, Sight: api.MaxSide, Speed: 4,
			Price: 1000, Turns: 1000, Carry: 1000, Flies: true, Trains: true,
		})
	}
	cells := api.MaxSide * api.MaxSide
	w := api.World{
		Turn: api.MaxNumber, Next: api.MaxNumber, Gold: slices.Repeat([]int{api.MaxNumber}, api.MaxPlayers),
		Field: api.Field{Wide: api.MaxSide, High: api.MaxSide, Ground: make([]int, cells), Ore: slices.Repeat([]int{api.MaxNumber}, cells)},
	}
	for i := range api.MaxUnits {
		w.Units = append(w.Units, api.Unit{
			Id: api.MaxNumber - api.MaxUnits + i, Player: api.MaxPlayers - 1, Kind: api.MaxKinds - 1, At: cells - 1 - i,
			Life: 1000, Load: 1000, Task: api.Gather, Goal: cells - 1,
		})
	}
	for range api.MaxQueue {
		w.Queue = append(w.Queue, api.Job{Player: api.MaxPlayers - 1, Unit: api.MaxNumber - 1, Kind: api.MaxKinds - 1, Left: 1000})
	}
	return k, w
}

// most are as many orders, with as great numbers, as there may be.
func most() []api.Order {
	return slices.Repeat([]api.Order{{Player: api.MaxPlayers - 1, Unit: api.MaxNumber, What: api.DoTrain, Arg: api.MaxNumber}}, api.MaxOrders)
}

// asked are the orders of a turn: of each turn others, as many as leave no sorted list, and of each fourth none.
func asked(n int) []api.Order {
	l := []api.Order{
		{Player: 3 - n%3, Unit: 8 * n, What: api.DoMarch, Arg: n * n},
		{Player: 0, Unit: n, What: api.DoStop},
		{Player: 3 - n%3, Unit: 8 * n, What: api.DoMarch, Arg: n},
	}
	return l[:n%4]
}

func askedTurns(from, to int) (turns [][]api.Order) {
	for n := from; n < to; n++ {
		turns = append(turns, asked(n))
	}
	return turns
}

// begun is a tape on which few began, and these turns were kept.
func begun(t *testing.T, turns ...[]api.Order) *tape.Tape {
	t.Helper()
	p := tape.New()
	does(t, chron.Begin(p, sorts(t), few(t)))
	keeps(t, p, turns...)
	return p
}

func keeps(t *testing.T, p *tape.Tape, turns ...[]api.Order) {
	t.Helper()
	for _, l := range turns {
		does(t, chron.Turn(p, l))
		allSafe(t, p)
	}
}

func allSafe(t *testing.T, p *tape.Tape) {
	t.Helper()
	if len(p.Bytes()) == 0 || p.Safe() != len(p.Bytes()) {
		t.Fatalf("%d of %d bytes are safe", p.Safe(), len(p.Bytes()))
	}
}

// laid is a tape of these bytes.
func laid(t *testing.T, b []byte) *tape.Tape {
	t.Helper()
	p := tape.New()
	_, err := p.Append(b)
	does(t, err)
	return p
}

// state is all that a tape tells.
func state(p *tape.Tape) string { return fmt.Sprintf("%q %d %d", p.Bytes(), p.Safe(), p.Steps()) }

// staysAs runs a call that must leave a tape as it is.
func staysAs(t *testing.T, p *tape.Tape, call func()) {
	t.Helper()
	before := state(p)
	call()
	if after := state(p); after != before {
		t.Fatalf("the tape was %s, and became %s", before, after)
	}
}

func does(t *testing.T, err error) {
	t.Helper()
	if err != nil {
		t.Fatalf("got %v, want no error", err)
	}
}

func tells(t *testing.T, err error, want api.Errno) {
	t.Helper()
	if plain.Told(err) != want {
		t.Fatalf("got %v, want %v", err, want)
	}
}

// told is what Recover tells, as a text in which nil is an empty list.
func told(k []api.Kind, w api.World, turns [][]api.Order) string {
	return fmt.Sprintf("%+v\n%+v\n%v", k, w, turns)
}

// finds holds what Recover tells of a tape against what it must.
func finds(t *testing.T, p *tape.Tape, k []api.Kind, w api.World, turns [][]api.Order) {
	t.Helper()
	staysAs(t, p, func() {
		t.Helper()
		gotK, gotW, gotTurns, err := chron.Recover(p)
		if got, want := told(gotK, gotW, gotTurns), told(k, w, turns); got != want || err != nil {
			t.Fatalf("got %s, %v; want %s", got, err, want)
		}
	})
}

// findsFew is finds of what begun began.
func findsFew(t *testing.T, p *tape.Tape, turns [][]api.Order) {
	t.Helper()
	finds(t, p, sorts(t), few(t), turns)
}

// findsNone holds that nothing begins on a tape, which all calls that need it tell, and nothing beside it.
func findsNone(t *testing.T, p *tape.Tape) {
	t.Helper()
	staysAs(t, p, func() {
		t.Helper()
		if k, w, turns, err := chron.Recover(p); plain.Told(err) != api.ErrFile || told(k, w, turns) != told(nil, api.World{}, nil) {
			t.Fatalf("Recover: got %v, %v, %v, %v", k, w, turns, err)
		}
		if w, err := chron.Now(p); plain.Told(err) != api.ErrFile || !same(w, api.World{}) {
			t.Fatalf("Now: got %v, %v", w, err)
		}
		for _, l := range append(wrongOrders(), nil, asked(1), most()) {
			tells(t, chron.Turn(p, l), api.ErrFile)
		}
	})
}

func same(a, b api.World) bool { return fmt.Sprint(a) == fmt.Sprint(b) }

// wrongOrders are lists of which each has one fault; the first one is ErrFull, all others are ErrRange.
func wrongOrders() [][]api.Order {
	l := [][]api.Order{append(most(), api.Order{})}
	for _, o := range []api.Order{
		{Player: -1}, {Player: api.MaxPlayers}, {Unit: -1}, {Unit: api.MaxNumber + 1}, {What: -1}, {What: 4},
		{What: api.DoMarch, Arg: -1}, {What: api.DoTrain, Arg: api.MaxNumber + 1}, {What: api.DoStop, Arg: 1},
		{Player: 1 << 62}, {Unit: -1 << 63}, {What: api.DoGather, Arg: 1<<63 - 1},
	} {
		l = append(l, []api.Order{o}, append(asked(3), o))
	}
	return l
}

// otherBytes are none on which something begins.
func otherBytes(t *testing.T) [][]byte {
	text, err := kinds.Print(sorts(t))
	does(t, err)
	w := world.Encode(few(t))
	l := [][]byte{
		{0}, {1}, {'m'}, {255}, {0, 0}, {0, 0, 0, 0}, {0, 1}, {0, 1, 0}, {0, 1, 255}, {255, 255}, {255, 255, 255}, make([]byte, 100),
		make([]byte, api.MaxBytes), slices.Repeat([]byte{255}, api.MaxBytes), []byte("marchland\n"), []byte("hello"), []byte(text), w,
		append(slices.Clone(w), text...), append([]byte(text), w...), world.Encode(bare()), world.Encode(api.World{}),
	}
	for _, b := range l {
		if len(b) <= api.MaxBytes-4 {
			l = append(l, tape.Frame(b), tape.Frame(tape.Frame(b)))
		}
	}
	return append(l, slices.Concat(tape.Frame(w), tape.Frame([]byte(text))), slices.Concat(tape.Frame([]byte(text)), tape.Frame(w)))
}

// TestScene: so that what is asked below is asked of worlds and orders that are right, and of the greatest.
func TestScene(t *testing.T) {
	k, w := great()
	for _, err := range []error{world.Check(sorts(t), few(t)), world.Check(nil, bare()), world.Check(k, w)} {
		does(t, err)
	}
	if long := len(world.Encode(w)); long < 1200 {
		t.Errorf("the greatest world has %d bytes", long)
	}
}
