package chron_test

import (
	"math/rand"
	"slices"
	"testing"

	"marchland/api"
	"marchland/chron"
	"marchland/tape"
)

// kept is what is known of a tape: whether the world surely begins on it, the turns that are surely there, and the one behind them that may be.
type kept struct {
	begins bool
	sure   [][]api.Order
	maybe  [][]api.Order
}

// play begins few, and keeps turns, till one of these fails.
func play(t *testing.T, p *tape.Tape, turns [][]api.Order) (c kept) {
	t.Helper()
	if err := chron.Begin(p, sorts(t), few(t)); err != nil {
		tells(t, err, api.ErrState)
		return c
	}
	c.begins = true
	c.more(t, p, turns)
	return c
}

// more keeps further turns, till one fails.
func (c *kept) more(t *testing.T, p *tape.Tape, turns [][]api.Order) {
	t.Helper()
	for _, l := range turns {
		if err := chron.Turn(p, l); err != nil {
			tells(t, err, api.ErrState)
			c.maybe = [][]api.Order{l}
			return
		}
		allSafe(t, p)
		c.sure = append(c.sure, l)
	}
}

// settle holds what Recover finds against what is known, and tells whether a world begins there; what may be there is then known.
func (c *kept) settle(t *testing.T, p *tape.Tape) bool {
	t.Helper()
	_, _, got, err := chron.Recover(p)
	if err != nil && !c.begins {
		findsNone(t, p)
		return false
	}
	c.begins = true
	if len(got) > len(c.sure) {
		c.sure = append(c.sure, c.maybe...)
	}
	c.maybe = nil
	findsFew(t, p, c.sure)
	return true
}

// steps are how many a tape does till these turns are kept.
func steps(t *testing.T, turns [][]api.Order) int {
	t.Helper()
	return begun(t, turns...).Steps()
}

// TestStops: H2, Begin and several Turns on a tape that stops at each number of steps, and is Crashed with each number of bytes kept: what was begun is found, and a beginning of the turns, no fewer than were kept without an error; and further Turns behind these.
func TestStops(t *testing.T) {
	turns := [][]api.Order{asked(1), nil, asked(7), asked(2)}
	further := [][]api.Order{asked(5), nil, asked(3)}
	all := steps(t, turns)
	for at := range all + 2 {
		for keep := -1; ; keep++ {
			p := tape.New()
			p.Fail(at)
			c := play(t, p, turns)
			if at >= all && len(c.sure) != len(turns) {
				t.Fatalf("%d turns are kept by %d steps", len(c.sure), at)
			}
			loose := len(p.Bytes()) - p.Safe()
			p.Crash(keep)
			if c.settle(t, p) {
				keeps(t, p, further...)
				findsFew(t, p, append(c.sure, further...))
			}
			if keep > loose {
				break
			}
		}
	}
}

// TestStopsWithoutCrash: H2, also ahead of the Crash what was begun is found, and a beginning of the turns, no fewer than were kept without an error; and what is asked of a tape that fails changes nothing.
func TestStopsWithoutCrash(t *testing.T) {
	turns := [][]api.Order{asked(1), nil, asked(3)}
	for at := range steps(t, turns) + 1 {
		p := tape.New()
		p.Fail(at)
		c := play(t, p, turns)
		if c.settle(t, p) && at < steps(t, turns) {
			noTurn(t, p, asked(6), api.ErrState)
		}
	}
}

// TestCrashedOnly: H2, of a tape that is Crashed without having failed nothing is lost, whatever is kept.
func TestCrashedOnly(t *testing.T) {
	for _, keep := range []int{-1 << 63, -1, 0, 1, 3, 1<<63 - 1} {
		p := tape.New()
		does(t, chron.Begin(p, sorts(t), few(t)))
		p.Crash(keep)
		findsFew(t, p, nil)
		for n := range 6 {
			keeps(t, p, asked(n))
			p.Crash(keep)
			findsFew(t, p, askedTurns(0, n+1))
		}
	}
}

// TestStopsAgain: H2, behind a first stop, which leaves a torn turn, the next Turns stop too, at each number of steps, and with each number of bytes kept.
func TestStopsAgain(t *testing.T) {
	first, next := asked(7), [][]api.Order{asked(2), nil, asked(3)}
	whole := len(begun(t, first).Bytes()) - len(begun(t).Bytes())
	for _, torn := range []int{0, 1, 2, 3, whole - 1, whole} {
		for at := range 3*len(next) + 1 {
			for keep := range whole + 2 {
				p := begun(t)
				p.Fail(p.Steps() + 1)
				c := kept{begins: true}
				c.more(t, p, [][]api.Order{first})
				p.Crash(torn)
				c.settle(t, p)
				p.Fail(at)
				c.more(t, p, next)
				p.Crash(keep)
				c.settle(t, p)
				keeps(t, p, asked(6))
				findsFew(t, p, append(c.sure, asked(6)))
			}
		}
	}
}

// TestStopsDrawn: H2, many stops, one behind the other, with drawn turns, steps, and bytes kept, as far as the tape has room.
func TestStopsDrawn(t *testing.T) {
	r := rand.New(rand.NewSource(18))
	failed, lost, full := 0, 0, 0
	for range 50 {
		p := begun(t)
		c := kept{begins: true}
		for range 50 {
			turns := [][]api.Order{most()[:r.Intn(61)], asked(r.Intn(50)), nil, asked(r.Intn(50))}[r.Intn(4)%3:]
			if len(p.Bytes()) > 4500 {
				full++
				break
			}
			p.Fail(p.Steps() + r.Intn(10))
			ahead := len(c.sure)
			c.more(t, p, turns)
			if len(c.sure)-ahead < len(turns) {
				failed++
			}
			p.Crash(r.Intn(40))
			known := len(c.sure) + len(c.maybe)
			c.settle(t, p)
			lost += known - len(c.sure)
		}
		isNowOf(t, p)
	}
	if failed < 1000 || lost < 500 || failed-lost < 100 || full < 10 || full > 50 {
		t.Errorf("%d failed, %d were lost, %d tapes came near their end", failed, lost, full)
	}
}

// isNowOf holds Now against Recover.
func isNowOf(t *testing.T, p *tape.Tape) {
	t.Helper()
	k, w, turns, err := chron.Recover(p)
	does(t, err)
	other := tape.New()
	does(t, chron.Begin(other, k, w))
	keeps(t, other, turns...)
	want, err := chron.Now(other)
	does(t, err)
	isNow(t, p, want)
}

// TestFullAndCrashed: H2, a tape that is full, and stops at that, keeps what it has.
func TestFullAndCrashed(t *testing.T) {
	for more := range 4 {
		p := begun(t)
		turns := fills(t, p, most())
		p.Fail(p.Steps() + more)
		err := chron.Turn(p, most())
		if more == 0 {
			tells(t, err, api.ErrState)
		} else {
			tells(t, err, api.ErrFull)
		}
		p.Crash(2)
		findsFew(t, p, turns)
		keeps(t, p, asked(1))
		findsFew(t, p, append(slices.Clone(turns), asked(1)))
	}
}
