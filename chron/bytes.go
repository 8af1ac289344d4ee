package chron

import (
	"bytes"

	"marchland/api"
	"marchland/kinds"
	"marchland/orders"
	"marchland/packed"
	"marchland/tape"
	"marchland/world"
)

const (
	// mark stands ahead of a world, so that no other bytes are taken for one.
	mark = "marchland\n"
	// leastTurn is how many bytes a turn has at least. A frame of so many takes 10: on 2000 bytes there are no more turns than Play takes, so that Now does not say ErrFull for their number there.
	leastTurn = 8
)

// chronicle is what bytes have, and how many of them it takes.
type chronicle struct {
	kinds []api.Kind
	world api.World
	turns [][]api.Order
	long  int
}

// read what bytes have, up to the first that is no turn: that was torn, or is none of a chronicle.
func read(b []byte) (chronicle, error) {
	frames, _ := tape.Frames(b)
	if len(frames) == 0 {
		return chronicle{}, api.ErrFile
	}
	c, ok := readWorld(frames[0])
	if !ok {
		return chronicle{}, api.ErrFile
	}
	c.long = len(tape.Frame(frames[0]))
	for _, frame := range frames[1:] {
		l, ok := readTurn(frame)
		if !ok {
			break
		}
		c.turns = append(c.turns, l)
		c.long += len(tape.Frame(frame))
	}
	return c, nil
}

func writeWorld(k []api.Kind, w api.World) ([]byte, error) {
	text, err := kinds.Print(k)
	if err != nil {
		return nil, err
	}
	b := append([]byte(mark), world.Encode(w)...)
	return append(b, text...), nil
}

// readWorld begins a chronicle, if bytes are just as writeWorld makes them of a world that is right.
func readWorld(b []byte) (chronicle, bool) {
	b, marked := bytes.CutPrefix(b, []byte(mark))
	w, long, err := world.Decode(b)
	if !marked || err != nil {
		return chronicle{}, false
	}
	k, _, err := kinds.Parse(string(b[long:]))
	if err != nil || world.Check(k, w) != nil {
		return chronicle{}, false
	}
	return chronicle{kinds: k, world: w}, true
}

func writeTurn(l []api.Order) []byte {
	numbers := []int{len(l)}
	for _, o := range l {
		numbers = append(numbers, o.Player, o.Unit, o.What, o.Arg)
	}
	b := packed.Write(numbers)
	for len(b) < leastTurn {
		b = append(b, 0)
	}
	return b
}

// readTurn gives the orders of a turn, if bytes are just as writeTurn makes them of orders that are right.
func readTurn(b []byte) ([]api.Order, bool) {
	at := 0
	// Where no number is, none is told as 0: that the bytes are others is seen when all are written again.
	next := func() int {
		n, long := packed.Read(b[at:])
		at += long
		return n
	}
	var l []api.Order
	for range min(next(), api.MaxOrders) {
		l = append(l, api.Order{Player: next(), Unit: next(), What: next(), Arg: next()})
	}
	return l, orders.Check(l) == nil && bytes.Equal(writeTurn(l), b)
}
