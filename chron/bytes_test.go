package chron

import (
	"fmt"
	"testing"

	"marchland/api"
	"marchland/tape"
)

// cell is a world of one cell, which is right without kinds.
func cell() api.World {
	return api.World{Next: 1, Field: api.Field{Wide: 1, High: 1, Ground: []int{0}, Ore: []int{0}}, Gold: []int{0}}
}

func worldBytes(t *testing.T, k []api.Kind, w api.World) []byte {
	t.Helper()
	b, err := writeWorld(k, w)
	if err != nil {
		t.Fatal(err)
	}
	return b
}

// TestWorldThatIsWrong: H1, a frame that is written as Begin does it, but of a world that chapter 7's Check refuses, begins nothing; neither does one with bytes ahead, behind or between.
func TestWorldThatIsWrong(t *testing.T) {
	k := []api.Kind{{Name: "a", Life: 1}}
	right := worldBytes(t, k, cell())
	if c, ok := readWorld(right); !ok || fmt.Sprint(c.kinds, c.world) != fmt.Sprint(k, cell()) {
		t.Fatalf("got %v, %v", c, ok)
	}
	late, poor, crowded := cell(), cell(), cell()
	late.Turn, poor.Gold = api.MaxNumber+1, nil
	crowded.Units = []api.Unit{{Id: 1}}
	for i, b := range [][]byte{
		worldBytes(t, k, late), worldBytes(t, k, poor), worldBytes(t, k, crowded), worldBytes(t, k, api.World{}),
		right[:len(right)-1], right[1:], append([]byte{0}, right...), append(right[:len(right):len(right)], 'x'), append(right[:len(right):len(right)], 0),
		append(right[:len(right):len(right)], "a 1 0 0 0 0 0 0 0 - -\n"...), right[:len(mark)], nil, right[len(mark):],
	} {
		if c, ok := readWorld(b); ok {
			t.Errorf("bytes %d: got %v", i, c)
		}
		if c, err := read(tape.Frame(b)); err != api.ErrFile || c.long != 0 || c.kinds != nil || c.turns != nil {
			t.Errorf("bytes %d, as a frame: got %v, %v", i, c, err)
		}
	}
}

// TestTurnThatIsWrong: H1, a frame that is written as Turn does it, but of orders that chapter 6's Check refuses, is none; neither is one with other bytes.
func TestTurnThatIsWrong(t *testing.T) {
	begin := tape.Frame(worldBytes(t, nil, cell()))
	first := tape.Frame(writeTurn([]api.Order{{Player: 3, Unit: 4}}))
	right := writeTurn([]api.Order{{Player: 1, Unit: 2, What: api.DoMarch, Arg: 3}, {Unit: 5}})
	with := func(i int, x byte) []byte {
		b := append([]byte(nil), right...)
		b[i] = x
		return b
	}
	for i, b := range [][]byte{
		writeTurn([]api.Order{{Player: 4}}), writeTurn([]api.Order{{Unit: -1}}), writeTurn(make([]api.Order, api.MaxOrders+1)),
		right[1:], right[:len(right)-1], append(right[:len(right):len(right)], 0), append([]byte{0}, right...), nil, {0}, {0, 0, 0, 0, 0, 0, 0},
		{0, 0, 0, 0, 0, 0, 0, 1}, {1, 0, 0, 0, 0, 0, 0, 0}, {0, 0, 0, 0, 0, 0, 0, 0, 0}, {255, 255, 255, 255, 255, 255, 255, 255, 255, 1},
		{254, 255, 255, 255, 255, 255, 255, 255, 255, 1}, {254, 255, 255, 255, 255, 255, 255, 255, 255, 2}, {128, 128, 128, 128, 128, 128, 128, 128},
		with(0, 0), with(0, 2), with(0, 6), with(0, 128), with(1, 1), with(3, 128), with(len(right)-1, 255),
	} {
		if l, ok := readTurn(b); ok {
			t.Errorf("bytes %d: got %v", i, l)
		}
		all := append(append(append([]byte(nil), begin...), first...), tape.Frame(b)...)
		if c, err := read(append(all, first...)); err != nil || len(c.turns) != 1 || c.long != len(begin)+len(first) {
			t.Errorf("bytes %d, as a frame: got %v, %v", i, c, err)
		}
	}
	if l, ok := readTurn(right); !ok || len(l) != 2 {
		t.Errorf("got %v, %v", l, ok)
	}
}

// TestLeastTurn: H1, MaxTurns turns without orders take 2000 bytes, so that on no more Now is not told ErrFull for their number.
func TestLeastTurn(t *testing.T) {
	if many := api.MaxTurns * len(tape.Frame(writeTurn(nil))); many < 2000 {
		t.Errorf("they take %d bytes", many)
	}
}
