package chron_test

import (
	"slices"
	"testing"

	"marchland/api"
	"marchland/chron"
	"marchland/tape"
)

// TestTurn: H1, the orders of turn by turn are kept, and safe.
func TestTurn(t *testing.T) {
	p := begun(t)
	for n := range 40 {
		keeps(t, p, asked(n))
		findsFew(t, p, askedTurns(0, n+1))
	}
	p.Crash(0)
	findsFew(t, p, askedTurns(0, 40))
}

// TestTurnOrders: H1, no orders, nil or an empty list; one of each kind; as many as there may be; each number at its edges.
func TestTurnOrders(t *testing.T) {
	turns := [][]api.Order{nil, {}, most(), most()[:1], most()[:59], make([]api.Order, api.MaxOrders), nil, {{}}, {}}
	for _, n := range []int{0, 1, 31, 32, 63, 64, 8191, 8192, api.MaxNumber} {
		for what := api.DoStop; what <= api.DoTrain; what++ {
			o := api.Order{Player: n % 4, Unit: api.MaxNumber - n, What: what, Arg: n}
			if what == api.DoStop {
				o.Arg = 0
			}
			turns = append(turns, []api.Order{o}, []api.Order{o, {}, o, o})
		}
	}
	p := begun(t, turns...)
	findsFew(t, p, turns)
}

// TestTurnNothing: H1, ErrFile where nothing begins: an empty tape, one of other bytes, one that fails too, whatever is asked.
func TestTurnNothing(t *testing.T) {
	for _, b := range append(otherBytes(t), nil) {
		p := laid(t, b)
		findsNone(t, p)
		p.Fail(0)
		findsNone(t, p)
		p.Crash(0)
		findsNone(t, p)
	}
}

// noTurn asks for one error of Turn, which leaves the tape as it is.
func noTurn(t *testing.T, p *tape.Tape, l []api.Order, want api.Errno) {
	t.Helper()
	staysAs(t, p, func() {
		t.Helper()
		tells(t, chron.Turn(p, l), want)
	})
}

// TestTurnWrong: H1, each error of chapter 6's Check by itself, ahead of the tape's; what was refused changes nothing, neither does it take away what is torn.
func TestTurnWrong(t *testing.T) {
	torn := laid(t, append(begun(t, asked(1)).Bytes(), 0))
	for _, p := range []*tape.Tape{begun(t), begun(t, asked(1)), torn} {
		_, _, turns, _ := chron.Recover(p)
		for _, fail := range []int{-1, 0} {
			p.Fail(fail)
			for i, l := range wrongOrders() {
				want := api.ErrRange
				if i == 0 {
					want = api.ErrFull
				}
				noTurn(t, p, l, want)
				findsFew(t, p, turns)
			}
		}
		p.Fail(-1)
		keeps(t, p, asked(3))
		findsFew(t, p, append(turns, asked(3)))
	}
}

// TestTurnTwoFaults: H1, of two wrong orders the first one counts, and too many orders are told ahead of any.
func TestTurnTwoFaults(t *testing.T) {
	p := begun(t)
	l := append(most(), api.Order{Player: -1})
	l[0].Player = -1
	noTurn(t, p, l, api.ErrFull)
	noTurn(t, p, l[:60], api.ErrRange)
	findsFew(t, p, nil)
}

// TestTurnFails: H1, on a tape that fails ErrState is told, and of one that does nothing more nothing comes, be it torn, or full.
func TestTurnFails(t *testing.T) {
	whole := begun(t, asked(1), asked(2))
	torn := laid(t, append(whole.Bytes(), 0, 200, 7))
	full := begun(t)
	fills(t, full, most())
	for _, p := range []*tape.Tape{whole, torn, full, laid(t, append(full.Bytes(), 255))} {
		_, _, turns, _ := chron.Recover(p)
		p.Fail(p.Steps())
		for _, l := range [][]api.Order{nil, asked(3), most()} {
			noTurn(t, p, l, api.ErrState)
		}
		findsFew(t, p, turns)
	}
}

// TestTurnBehindTorn: H1, a turn is found behind what a torn frame leaves, wherever it was torn, and no torn byte is left.
func TestTurnBehindTorn(t *testing.T) {
	before, after := begun(t, asked(1)).Bytes(), begun(t, asked(1), asked(3)).Bytes()
	for n := len(before); n < len(after); n++ {
		p := laid(t, after[:n])
		keeps(t, p, asked(2))
		findsFew(t, p, askedTurns(1, 3))
		if want := begun(t, asked(1), asked(2)); !slices.Equal(p.Bytes(), want.Bytes()) {
			t.Fatalf("%d bytes of the torn turn: the tape has %d bytes, not the %d of one without it", n-len(before), len(p.Bytes()), len(want.Bytes()))
		}
		keeps(t, p, asked(3), nil)
		findsFew(t, p, append(askedTurns(1, 4), nil))
	}
}

// TestRoom: H1, no call says ErrFull while the tape has at most 2000 bytes, with the greatest world, kinds and orders, and as many turns as come there.
func TestRoom(t *testing.T) {
	k, w := great()
	w.Turn = 0
	for _, l := range [][]api.Order{nil, asked(1), asked(2), asked(3), most()[:1], most()[:2], most()[:7], most()} {
		for _, big := range []bool{true, false} {
			p := tape.New()
			if big {
				does(t, chron.Begin(p, k, w))
			} else {
				does(t, chron.Begin(p, nil, bare()))
			}
			var turns [][]api.Order
			var last []byte
			for len(p.Bytes()) <= 2000 {
				if last = p.Bytes(); len(turns) > 2000 {
					t.Fatal("the tape does not grow")
				}
				greatestAlso(t, last)
				keeps(t, p, l)
				turns = append(turns, l)
			}
			_, err := chron.Now(laid(t, last))
			does(t, err)
			if _, _, got, err := chron.Recover(p); err != nil || len(got) != len(turns) {
				t.Fatalf("got %d turns, %v; want %d", len(got), err, len(turns))
			}
		}
	}
}

// greatestAlso holds that behind these bytes, and behind these and a torn frame that comes to 2000, there is room for the greatest orders.
func greatestAlso(t *testing.T, b []byte) {
	t.Helper()
	p := laid(t, b)
	keeps(t, p, most())
	torn := append(slices.Clone(b), slices.Repeat([]byte{255}, 2000-len(b))...)
	p = laid(t, torn)
	keeps(t, p, most())
}

// fills keeps turns of these orders till there is ErrFull, and gives them.
func fills(t *testing.T, p *tape.Tape, l []api.Order) (turns [][]api.Order) {
	t.Helper()
	for range api.MaxBytes {
		if err := chron.Turn(p, l); err != nil {
			tells(t, err, api.ErrFull)
			return turns
		}
		turns = append(turns, l)
	}
	t.Fatal("ErrFull never comes")
	return nil
}

// TestFull: H1, P1, ErrFull comes where the tape is full, and nothing is lost by it: all that was kept is found, and what is smaller may yet be kept.
func TestFull(t *testing.T) {
	for _, l := range [][]api.Order{nil, asked(3), most()[:7], most()} {
		p := begun(t)
		turns := fills(t, p, l)
		for range 2 {
			noTurn(t, p, l, api.ErrFull)
			noTurn(t, p, most(), api.ErrFull)
			findsFew(t, p, turns)
			p.Crash(0)
		}
		turns = append(turns, fills(t, p, nil)...)
		findsFew(t, p, turns)
		noTurn(t, p, nil, api.ErrFull)
	}
}

// TestFullToTheLastByte: H1, a turn that comes just to the tape's end is kept, also where torn bytes lie in its place.
func TestFullToTheLastByte(t *testing.T) {
	p := begun(t)
	turns := fills(t, p, most())
	b := p.Bytes()
	var last []api.Order
	for many := 0; many < 16*api.MaxOrders && len(p.Bytes()) != api.MaxBytes; many++ {
		// Of orders of several lengths some come together to each number of bytes.
		last = slices.Concat(most()[:many/16], slices.Repeat([]api.Order{{Unit: 64}}, many%16/2), make([]api.Order, many%2))
		if p = laid(t, b); chron.Turn(p, last) != nil {
			p = laid(t, b)
		}
	}
	if len(p.Bytes()) != api.MaxBytes {
		t.Fatalf("none comes to the end: %d bytes were there", len(b))
	}
	turns = append(turns, last)
	findsFew(t, p, turns)
	noTurn(t, p, nil, api.ErrFull)
	for _, torn := range [][]byte{{0}, slices.Repeat([]byte{255}, api.MaxBytes-len(b))} {
		p := laid(t, append(slices.Clone(b), torn...))
		keeps(t, p, last)
		findsFew(t, p, turns)
	}
}

// TestFullAndTorn: H1, P1, torn bytes count as room, since they go; if there is none without them either, nothing is changed.
func TestFullAndTorn(t *testing.T) {
	p := begun(t, slices.Repeat([][]api.Order{most()}, 11)...)
	if len(p.Bytes()) < 5000 || len(p.Bytes()) > 5900 {
		t.Fatalf("the tape has %d bytes", len(p.Bytes()))
	}
	turns := slices.Repeat([][]api.Order{most()}, 11)
	_, err := p.Append(slices.Repeat([]byte{255}, api.MaxBytes-len(p.Bytes())))
	does(t, err)
	for range 2 {
		noTurn(t, p, most(), api.ErrFull)
		findsFew(t, p, turns)
		does(t, p.Sync())
	}
	keeps(t, p, asked(3))
	findsFew(t, p, append(turns, asked(3)))
}
