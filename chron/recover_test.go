package chron_test

import (
	"math/rand"
	"slices"
	"testing"

	"marchland/api"
	"marchland/chron"
	"marchland/orders"
	"marchland/plain"
	"marchland/tape"
	"marchland/world"
)

// TestRecoverEach: H1, behind a Begin alone, and behind each of several Turns, turns without orders among them, first, in a row, and last.
func TestRecoverEach(t *testing.T) {
	turns := [][]api.Order{nil, asked(3), nil, nil, asked(1), most(), asked(2), nil}
	p := begun(t)
	findsFew(t, p, nil)
	for n := range turns {
		keeps(t, p, turns[n])
		findsFew(t, p, turns[:n+1])
	}
}

// TestRecoverAsGiven: H1, the orders are told as they were given: not sorted, none left out that another one takes the place of, none that could not be done.
func TestRecoverAsGiven(t *testing.T) {
	l := []api.Order{
		{Player: 3, Unit: 900000, What: api.DoTrain, Arg: 7}, {Player: 0, Unit: 4, What: api.DoMarch, Arg: 3}, {Player: 0, Unit: 4, What: api.DoStop},
		{Player: 0, Unit: 4, What: api.DoMarch, Arg: 3}, {Player: 0, Unit: 1, What: api.DoTrain, Arg: digger}, {Player: 0, Unit: 1, What: api.DoTrain, Arg: digger},
	}
	findsFew(t, begun(t, l, l[3:]), [][]api.Order{l, l[3:]})
}

// ends are how many bytes a tape has behind Begin, and behind each turn.
func ends(t *testing.T, turns [][]api.Order) (l []int) {
	p := begun(t)
	for _, orders := range turns {
		l = append(l, len(p.Bytes()))
		keeps(t, p, orders)
	}
	return append(l, len(p.Bytes()))
}

// TestRecoverTorn: H1, of a tape that ends anywhere those turns are found that are whole; nothing, if not even the world is; whether it is safe or not.
func TestRecoverTorn(t *testing.T) {
	turns := append(askedTurns(0, 6), most(), nil)
	b := begun(t, turns...).Bytes()
	l := ends(t, turns)
	for n := range len(b) + 1 {
		p := laid(t, b[:n])
		whole := 0
		for whole < len(l) && l[whole] <= n {
			whole++
		}
		for range 2 {
			if whole == 0 {
				findsNone(t, p)
			} else {
				findsFew(t, p, turns[:whole-1])
			}
			does(t, p.Sync())
		}
	}
}

// TestRecoverOthersBehind: H1, H2, other bytes behind a chronicle, whole frames among them, take nothing from it, nor from the turns that come behind.
func TestRecoverOthersBehind(t *testing.T) {
	turns := askedTurns(1, 4)
	b := begun(t, turns...).Bytes()
	behind := [][]byte{
		{0}, {255, 255, 0}, {0, 0}, {0, 1, 0}, tape.Frame([]byte("other")), tape.Frame(make([]byte, 7)), tape.Frame(make([]byte, 9)),
		tape.Frame(world.Encode(few(t))), b, tape.Frame(b), slices.Concat(tape.Frame([]byte("other")), tape.Frame(make([]byte, 8))),
	}
	for _, more := range behind {
		p := laid(t, slices.Concat(b, more))
		findsFew(t, p, turns)
		keeps(t, p, asked(5), nil)
		findsFew(t, p, append(slices.Clone(turns), asked(5), nil))
	}
}

// TestRecoverNotSafe: H1, P1, what is told does not hang on what is safe, nor on whether the tape fails.
func TestRecoverNotSafe(t *testing.T) {
	p := begun(t, asked(1))
	p.Fail(0)
	findsFew(t, p, askedTurns(1, 2))
	p.Crash(0)
	does(t, p.Cut(len(p.Bytes())))
	findsFew(t, p, askedTurns(1, 2))
}

// rightAnyway holds that what Recover tells of any bytes is ErrFile and nothing, or a world and orders that are right, and that Now, Turn and Begin tell the same of them.
func rightAnyway(t *testing.T, b []byte) (found bool) {
	t.Helper()
	k, w, turns, err := chron.Recover(laid(t, b))
	if err != nil {
		findsNone(t, laid(t, b))
		return false
	}
	does(t, world.Check(k, w))
	for _, l := range turns {
		does(t, orders.Check(l))
	}
	p := laid(t, b)
	noBegin(t, p, sorts(t), few(t), api.ErrState)
	if _, err := chron.Now(p); err != nil {
		tells(t, err, api.ErrFull)
	}
	keeps(t, p, asked(3))
	finds(t, p, k, w, append(turns, asked(3)))
	return true
}

// TestRecoverDrawn: H1, P1, of whatever bytes: drawn ones, and a chronicle's with some of them others.
func TestRecoverDrawn(t *testing.T) {
	r := rand.New(rand.NewSource(17))
	whole := begun(t, asked(1), asked(2), asked(4), most()[:3]).Bytes()
	found := 0
	for range 1500 {
		b := make([]byte, r.Intn(300))
		r.Read(b)
		rightAnyway(t, b)
		b = append(tape.Frame(b), b...)
		rightAnyway(t, b)

		b = slices.Clone(whole)
		for range 1 + r.Intn(3) {
			b[r.Intn(len(b))] = byte(r.Intn(1 << (1 + r.Intn(8))))
		}
		if rightAnyway(t, b) {
			found++
		}
	}
	if found < 80 {
		t.Errorf("%d of these were found", found)
	}
}

// TestRecoverEveryByte: H1, P1, a chronicle of which one byte is another.
func TestRecoverEveryByte(t *testing.T) {
	whole := begun(t, asked(2)).Bytes()
	for i := range whole {
		for _, x := range []byte{0, 1, 2, 127, 128, 255, whole[i] + 1, whole[i] - 1} {
			b := slices.Clone(whole)
			b[i] = x
			rightAnyway(t, b)
		}
	}
}

// TestErrorsAreErrnos: P3, each error is one of the program's.
func TestErrorsAreErrnos(t *testing.T) {
	p := tape.New()
	_, _, _, err := chron.Recover(p)
	_, bad := chron.Now(p)
	full := begun(t)
	fills(t, full, nil)
	for i, e := range []error{err, bad, chron.Turn(p, nil), chron.Begin(p, nil, api.World{}), chron.Begin(full, nil, bare()), chron.Turn(full, nil)} {
		if n := plain.Told(e); n < api.ErrRange || n > api.ErrFile {
			t.Errorf("error %d: got %v", i, e)
		}
	}
}
