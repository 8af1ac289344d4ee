package chron_test

import (
	"testing"

	"marchland/api"
	"marchland/chron"
	"marchland/plain"
	"marchland/tape"
	"marchland/turn"
)

// played are turns of few, in which there is something of all that may be asked, and some that is refused.
func played() [][]api.Order {
	return [][]api.Order{
		{{Player: 0, Unit: 1, What: api.DoTrain, Arg: fighter}, {Player: 2, Unit: 8, What: api.DoTrain, Arg: digger}},
		nil,
		{{Player: 1, Unit: 3, What: api.DoMarch, Arg: 3}, {Player: 1, Unit: 6, What: api.DoMarch, Arg: 0}, {Player: 1, Unit: 3, What: api.DoStop}},
		{{Player: 0, Unit: 3, What: api.DoStop}, {Player: 0, Unit: 77, What: api.DoStop}, {Player: 3, Unit: 1, What: api.DoTrain, Arg: 99}, {Player: 0, Unit: 4, What: api.DoGather, Arg: 0}},
		{{Player: 0, Unit: 9, What: api.DoGather, Arg: 5}},
		nil,
	}
}

// isNow holds Now against what it must tell.
func isNow(t *testing.T, p *tape.Tape, want api.World) {
	t.Helper()
	staysAs(t, p, func() {
		t.Helper()
		if got, err := chron.Now(p); !same(got, want) || err != nil {
			t.Fatalf("got %+v, %v; want %+v", got, err, want)
		}
	})
}

// noNow asks for one error, and nothing beside it.
func noNow(t *testing.T, p *tape.Tape, want api.Errno) {
	t.Helper()
	if got, err := chron.Now(p); !same(got, api.World{}) || plain.Told(err) != want {
		t.Fatalf("got %v, %v; want %v", got, err, want)
	}
}

// TestNow: H1, behind a Begin alone the world as it began, and behind each Turn what Play gives, of orders that are refused too.
func TestNow(t *testing.T) {
	p := begun(t)
	isNow(t, p, few(t))
	turns := played()
	for n := range turns {
		keeps(t, p, turns[n])
		want, err := turn.Play(sorts(t), few(t), turns[:n+1])
		does(t, err)
		isNow(t, p, want)
		if want.Turn != 7+n {
			t.Fatalf("behind %d turns: Turn is %d", n+1, want.Turn)
		}
	}
	for n := range 12 {
		p := begun(t, askedTurns(0, n)...)
		want, err := turn.Play(sorts(t), few(t), askedTurns(0, n))
		does(t, err)
		isNow(t, p, want)
	}
}

// TestNowWorked: H1, a worked case: a digger that walks to the ore, takes, and brings; what is asked is what counts in its turn.
func TestNowWorked(t *testing.T) {
	w := api.World{
		Next: 3, Field: api.Field{Wide: 4, High: 1, Ground: make([]int, 4), Ore: []int{0, 0, 0, 90}}, Gold: []int{0},
		Units: []api.Unit{{Id: 1, Kind: base, At: 0, Life: 50}, {Id: 2, Kind: digger, At: 1, Life: 10}},
	}
	p := tape.New()
	does(t, chron.Begin(p, sorts(t), w))
	isNow(t, p, w)
	for n, c := range []struct {
		l                   []api.Order
		at, load, ore, gold int
	}{
		{[]api.Order{{Unit: 2, What: api.DoMarch, Arg: 2}}, 2, 0, 90, 0},
		{[]api.Order{{Unit: 2, What: api.DoStop}, {Unit: 2, What: api.DoGather, Arg: 3}}, 3, 10, 80, 0},
		{nil, 3, 20, 70, 0},
		{nil, 1, 0, 70, 20},
	} {
		keeps(t, p, c.l)
		got, err := chron.Now(p)
		does(t, err)
		if u := got.Units[1]; got.Turn != n+1 || u.At != c.at || u.Load != c.load || got.Field.Ore[3] != c.ore || got.Gold[0] != c.gold {
			t.Errorf("turn %d: got %+v", n, got)
		}
	}
}

// TestNowNothing: H1, ErrFile as Recover.
func TestNowNothing(t *testing.T) {
	for _, b := range append(otherBytes(t), nil, begun(t).Bytes()[:20]) {
		noNow(t, laid(t, b), api.ErrFile)
	}
}

// TestNowTorn: H1, of a tape that ends in a torn frame the turns that are whole are played.
func TestNowTorn(t *testing.T) {
	turns := played()
	b := begun(t, turns...).Bytes()
	want, err := turn.Play(sorts(t), few(t), turns[:len(turns)-1])
	does(t, err)
	isNow(t, laid(t, b[:len(b)-1]), want)
}

// TestNowLate: H1, Play's errors: Turn comes to MaxNumber, and no further; what is kept is found all the same.
func TestNowLate(t *testing.T) {
	w := few(t)
	w.Turn = api.MaxNumber - 2
	p := tape.New()
	does(t, chron.Begin(p, sorts(t), w))
	for n := range 4 {
		if n <= 2 {
			want, err := turn.Play(sorts(t), w, make([][]api.Order, n))
			does(t, err)
			isNow(t, p, want)
		} else {
			noNow(t, p, api.ErrFull)
		}
		keeps(t, p, nil)
	}
	finds(t, p, sorts(t), w, make([][]api.Order, 4))
}

// TestNowMany: H1, Play's errors: MaxTurns turns, and more; what is kept is found all the same.
func TestNowMany(t *testing.T) {
	p := begun(t, make([][]api.Order, api.MaxTurns)...)
	want, err := turn.Play(sorts(t), few(t), make([][]api.Order, api.MaxTurns))
	does(t, err)
	isNow(t, p, want)
	for n := range 3 {
		keeps(t, p, nil)
		noNow(t, p, api.ErrFull)
		findsFew(t, p, make([][]api.Order, api.MaxTurns+1+n))
	}
}
