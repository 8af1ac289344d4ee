package chron_test

import (
	"fmt"
	"slices"
	"testing"

	"marchland/api"
	"marchland/chron"
	"marchland/tape"
)

// roomy is a list with something behind its length.
func roomy[T any](l []T, behind T) []T { return append(slices.Clone(l), behind, behind)[:len(l)] }

// whole is a list with what lies behind it, as text.
func whole[T any](l []T) string { return fmt.Sprint(l[:len(l)+2]) }

func fill[T any](l []T, x T) {
	l = l[:cap(l)]
	for i := range l {
		l[i] = x
	}
}

var (
	noKind  = api.Kind{Name: "?", Life: -1}
	noUnit  = api.Unit{Id: -1}
	noJob   = api.Job{Unit: -1}
	noOrder = api.Order{Player: -1}
)

// roomyScene is few, all lists of which have something behind their length.
func roomyScene(t *testing.T) ([]api.Kind, api.World) {
	k, w := sorts(t), few(t)
	w.Field.Ground, w.Field.Ore = roomy(w.Field.Ground, 77), roomy(w.Field.Ore, 77)
	w.Gold, w.Units, w.Queue = roomy(w.Gold, 77), roomy(w.Units, noUnit), roomy(w.Queue, noJob)
	return roomy(k, noKind), w
}

func wholeScene(k []api.Kind, w api.World) string {
	return whole(k) + whole(w.Field.Ground) + whole(w.Field.Ore) + whole(w.Gold) + whole(w.Units) + whole(w.Queue)
}

func fillScene(k []api.Kind, w api.World) {
	fill(k, noKind)
	fill(w.Field.Ground, 77)
	fill(w.Field.Ore, 77)
	fill(w.Gold, 77)
	fill(w.Units, noUnit)
	fill(w.Queue, noJob)
}

// TestWorldStays: P2, P4: what Begin is handed stays as it was, and what lies behind it is neither read nor written, whether it is taken or refused.
func TestWorldStays(t *testing.T) {
	k, w := roomyScene(t)
	want := wholeScene(k, w)
	p, failing := tape.New(), tape.New()
	failing.Fail(0)
	does(t, chron.Begin(p, k, w))
	chron.Begin(p, k, w)
	chron.Begin(failing, k, w)
	chron.Begin(tape.New(), k[:1], w)
	keeps(t, p, played()...)
	if _, err := chron.Now(p); err != nil || wholeScene(k, w) != want {
		t.Errorf("it became %s, %v", wholeScene(k, w), err)
	}
	if want := begun(t, played()...); !slices.Equal(p.Bytes(), want.Bytes()) {
		t.Error("what lies behind is seen on the tape")
	}
}

// TestWorldIsKept: P2, what Begin was handed, and is changed afterwards, does not change the tape.
func TestWorldIsKept(t *testing.T) {
	p := tape.New()
	k, w := roomyScene(t)
	does(t, chron.Begin(p, k, w))
	fillScene(k, w)
	findsFew(t, p, nil)
	isNow(t, p, few(t))
}

// TestOrdersStay: P2, P4: what Turn is handed stays as it was, and what lies behind it is neither read nor written, whether it is taken or refused.
func TestOrdersStay(t *testing.T) {
	for _, begin := range append(wrongOrders(), nil, asked(1), asked(3), most()) {
		l := roomy(begin, noOrder)
		want := whole(l)
		failing := begun(t)
		failing.Fail(0)
		for _, p := range []*tape.Tape{begun(t), tape.New(), failing} {
			chron.Turn(p, l)
			chron.Recover(p)
			chron.Now(p)
			if whole(l) != want {
				t.Errorf("%v: it became %v", begin, whole(l))
			}
		}
	}
	p := begun(t, roomy(asked(3), noOrder), roomy(nil, noOrder))
	findsFew(t, p, [][]api.Order{asked(3), nil})
}

// TestOrdersAreKept: P2, what Turn was handed, and is changed afterwards, does not change the tape, be it one list for many turns.
func TestOrdersAreKept(t *testing.T) {
	p := begun(t)
	l := make([]api.Order, 3, 9)
	for n := range 4 {
		copy(l, asked(7))
		l[n%3].Unit = n
		keeps(t, p, l, l[:1])
		fill(l, noOrder)
	}
	var want [][]api.Order
	for n := range 4 {
		one := asked(7)
		one[n%3].Unit = n
		want = append(want, one, one[:1])
	}
	findsFew(t, p, want)
}

// TestAnswersAreFresh: P2, what is written into an answer, or behind it, changes neither the tape, nor another answer, nor another list of it.
func TestAnswersAreFresh(t *testing.T) {
	turns := [][]api.Order{asked(3), nil, asked(2), asked(7)}
	p := begun(t, turns...)
	k, w, got, err := chron.Recover(p)
	does(t, err)
	otherK, otherW, other, err := chron.Recover(p)
	does(t, err)
	now, err := chron.Now(p)
	does(t, err)
	later, err := chron.Now(p)
	does(t, err)
	wantNow := fmt.Sprint(later)

	fill(k, noKind)
	if told(nil, w, got) != told(nil, few(t), turns) {
		t.Error("the kinds share memory with another list")
	}
	fillWorld(t, w)
	if told(nil, api.World{}, got) != told(nil, api.World{}, turns) {
		t.Error("the world shares memory with the turns")
	}
	for n, l := range got {
		fill(l, noOrder)
		if told(nil, api.World{}, got[n+1:]) != told(nil, api.World{}, turns[n+1:]) {
			t.Errorf("turn %d shares memory with another", n)
		}
	}
	fill(got, []api.Order{noOrder})
	fillWorld(t, now)
	if told(otherK, otherW, other) != told(sorts(t), few(t), turns) || fmt.Sprint(later) != wantNow {
		t.Error("another answer has changed")
	}
	findsFew(t, p, turns)
	isNow(t, p, later)
}

// fillWorld writes list by list into a world, and behind each, and holds that no other list of it is changed.
func fillWorld(t *testing.T, w api.World) {
	t.Helper()
	lists := []func() string{
		func() string { return fmt.Sprint(w.Field.Ground) }, func() string { return fmt.Sprint(w.Field.Ore) }, func() string { return fmt.Sprint(w.Gold) },
		func() string { return fmt.Sprint(w.Units) }, func() string { return fmt.Sprint(w.Queue) },
	}
	for i, write := range []func(){
		func() { fill(w.Field.Ground, 77) }, func() { fill(w.Field.Ore, 78) }, func() { fill(w.Gold, 79) },
		func() { fill(w.Units, noUnit) }, func() { fill(w.Queue, noJob) },
	} {
		var before []string
		for _, list := range lists {
			before = append(before, list())
		}
		write()
		for j, list := range lists {
			if j != i && list() != before[j] {
				t.Errorf("list %d shares memory with list %d", i, j)
			}
		}
	}
}

// TestNowOfNoTurns: P2, of no turns too Now is new memory each time.
func TestNowOfNoTurns(t *testing.T) {
	p := begun(t)
	w, err := chron.Now(p)
	does(t, err)
	fillWorld(t, w)
	isNow(t, p, few(t))
}

// TestTapesAreApart: P2, what is kept on one tape is not seen on another, and the same calls come to the same bytes.
func TestTapesAreApart(t *testing.T) {
	a, b := begun(t, asked(1)), tape.New()
	findsNone(t, b)
	does(t, chron.Begin(b, nil, bare()))
	keeps(t, a, asked(2))
	keeps(t, b, asked(3))
	findsFew(t, a, askedTurns(1, 3))
	finds(t, b, nil, bare(), askedTurns(3, 4))
	for range 3 {
		if again := begun(t, asked(1), asked(2)); !slices.Equal(again.Bytes(), a.Bytes()) {
			t.Fatal("the same calls come to other bytes")
		}
	}
}
