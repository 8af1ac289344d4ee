package orders_test

import (
	"math/rand"
	"slices"
	"testing"

	"marchland/api"
	"marchland/orders"
	"marchland/plain"
)

// TestLast: O2, what counts, and in which order.
func TestLast(t *testing.T) {
	for _, c := range []struct {
		name    string
		l, want []api.Order
	}{
		{"none", nil, nil},
		{"an empty list", []api.Order{}, nil},
		{"a stop", []api.Order{stop(1, 2)}, []api.Order{stop(1, 2)}},
		{"a march", []api.Order{march(1, 2, 3)}, []api.Order{march(1, 2, 3)}},
		{"a gather", []api.Order{gather(1, 2, 3)}, []api.Order{gather(1, 2, 3)}},
		{"a train", []api.Order{train(1, 2, 3)}, []api.Order{train(1, 2, 3)}},
		{"go, and come back", []api.Order{march(0, 1, 9), march(0, 1, 2)}, []api.Order{march(0, 1, 2)}},
		{"go, and stop", []api.Order{march(0, 1, 9), stop(0, 1)}, []api.Order{stop(0, 1)}},
		{"stop, and go", []api.Order{stop(0, 1), march(0, 1, 9)}, []api.Order{march(0, 1, 9)}},
		{"gather, go, gather", []api.Order{gather(0, 1, 1), march(0, 1, 2), gather(0, 1, 3)}, []api.Order{gather(0, 1, 3)}},
		{"the same twice", []api.Order{march(0, 1, 9), march(0, 1, 9)}, []api.Order{march(0, 1, 9)}},
		{"60 of one unit", append(times(59, march(0, 1, 9)), stop(0, 1)), []api.Order{stop(0, 1)}},
		{"all of train", []api.Order{train(0, 1, 5), train(0, 1, 2), train(0, 1, 5), train(0, 1, 0)},
			[]api.Order{train(0, 1, 5), train(0, 1, 2), train(0, 1, 5), train(0, 1, 0)}},
		{"60 of train", times(60, train(3, 3, 3)), times(60, train(3, 3, 3))},
		{"train behind the other", []api.Order{march(0, 1, 9), train(0, 1, 5)}, []api.Order{train(0, 1, 5), march(0, 1, 9)}},
		{"train ahead of the other", []api.Order{train(0, 1, 5), march(0, 1, 9)}, []api.Order{train(0, 1, 5), march(0, 1, 9)}},
		{"train, and a stop", []api.Order{stop(0, 1), train(0, 1, 5)}, []api.Order{train(0, 1, 5), stop(0, 1)}},
		{"train between", []api.Order{march(0, 1, 9), train(0, 1, 5), gather(0, 1, 4), train(0, 1, 2)},
			[]api.Order{train(0, 1, 5), train(0, 1, 2), gather(0, 1, 4)}},
		{"a train takes no other's place", []api.Order{gather(0, 1, 4), train(0, 1, 5), train(0, 1, 6)},
			[]api.Order{train(0, 1, 5), train(0, 1, 6), gather(0, 1, 4)}},
		{"by Player", []api.Order{stop(3, 0), stop(1, 0), stop(2, 0), stop(0, 0)}, []api.Order{stop(0, 0), stop(1, 0), stop(2, 0), stop(3, 0)}},
		{"by Unit", []api.Order{stop(0, 1000000), stop(0, 10), stop(0, 9), stop(0, 0)}, []api.Order{stop(0, 0), stop(0, 9), stop(0, 10), stop(0, 1000000)}},
		{"by Player ahead of Unit", []api.Order{stop(1, 3), stop(0, 7), stop(1, 0), stop(0, 5)}, []api.Order{stop(0, 5), stop(0, 7), stop(1, 0), stop(1, 3)}},
		{"by Unit ahead of train", []api.Order{train(0, 2, 1), stop(0, 1)}, []api.Order{stop(0, 1), train(0, 2, 1)}},
		{"by Player ahead of train", []api.Order{train(1, 0, 1), stop(0, 5)}, []api.Order{stop(0, 5), train(1, 0, 1)}},
		{"one unit's number with two players", []api.Order{march(1, 7, 1), march(0, 7, 2), stop(1, 7)}, []api.Order{march(0, 7, 2), stop(1, 7)}},
		{"one player's units, in turn", []api.Order{march(0, 2, 1), march(0, 1, 1), march(0, 2, 3), march(0, 1, 4)}, []api.Order{march(0, 1, 4), march(0, 2, 3)}},
		{"ordinary ones", few(), []api.Order{train(0, 3, 0), stop(0, 3), march(1, 12, 0), gather(2, 4, 100), train(3, 0, 2)}},
	} {
		if got, err := orders.Last(c.l); !slices.Equal(got, c.want) || err != nil {
			t.Errorf("%s: got %v, %v; want %v", c.name, got, err, c.want)
		}
	}
}

// TestLastOfWrong: O2, wrong orders, even where another one takes their place.
func TestLastOfWrong(t *testing.T) {
	for _, c := range wrong() {
		if got, err := orders.Last(c.l); got != nil || plain.Told(err) != c.told {
			t.Errorf("%v: got %v, %v; want %v", c.l, got, err, c.told)
		}
	}
	for _, l := range [][]api.Order{
		{march(0, 1, -1), march(0, 1, 2)},
		{order(0, 1, api.DoStop, 5), stop(0, 1)},
		{march(0, 1, 2), march(0, 1, 1000001)},
	} {
		if got, err := orders.Last(l); got != nil || plain.Told(err) != api.ErrRange {
			t.Errorf("%v: got %v, %v", l, got, err)
		}
	}
}

// wantLast is O2 word by word: player by player, unit by unit, first those of DoTrain, then the last of the others.
func wantLast(l []api.Order, mostUnit int) (want []api.Order) {
	for player := range 4 {
		for unit := range mostUnit + 1 {
			var other []api.Order
			for _, o := range l {
				if o.Player != player || o.Unit != unit {
					continue
				}
				if o.What == api.DoTrain {
					want = append(want, o)
				} else {
					other = []api.Order{o}
				}
			}
			want = append(want, other...)
		}
	}
	return want
}

// drawn are orders for few units, so that many are for the same one.
func drawn(r *rand.Rand, n, mostUnit int) []api.Order {
	l := make([]api.Order, n)
	for i := range l {
		l[i] = order(r.Intn(4), r.Intn(mostUnit+1), r.Intn(4), r.Intn(5))
		if l[i].What == api.DoStop {
			l[i].Arg = 0
		}
	}
	return l
}

// TestLastOfDrawn: O2, drawn orders; what Last gives stays as it is, given to Last once more.
func TestLastOfDrawn(t *testing.T) {
	r := rand.New(rand.NewSource(6))
	for range 5000 {
		l := drawn(r, r.Intn(61), r.Intn(12))
		before := slices.Clone(l)
		got, err := orders.Last(l)
		if want := wantLast(l, 12); !slices.Equal(got, want) || err != nil {
			t.Fatalf("%v: got %v, %v; want %v", l, got, err, want)
		}
		if again, err := orders.Last(got); !slices.Equal(again, got) || err != nil {
			t.Fatalf("%v: once more gives %v, %v", got, again, err)
		}
		if !slices.Equal(l, before) {
			t.Fatalf("was %v, is %v", before, l)
		}
	}
}

// TestLastIsFresh: P2, what comes out shares no memory with what was handed in, nor with another answer.
func TestLastIsFresh(t *testing.T) {
	l := []api.Order{stop(0, 0), stop(1, 1)}
	before := slices.Clone(l)
	got, _ := orders.Last(l)
	again, _ := orders.Last(l)
	merged, _ := orders.Merge([][]api.Order{l})
	for _, answer := range [][]api.Order{got, merged} {
		for i := range answer[:cap(answer)] {
			answer[:cap(answer)][i] = order(9, 9, 9, 9)
		}
	}
	if !slices.Equal(l, before) || !slices.Equal(again, before) {
		t.Errorf("what was written into an answer stands in %v, %v", l, again)
	}
}

// TestMerge: O2, lists one behind the other, and then Last.
func TestMerge(t *testing.T) {
	for _, c := range []struct {
		name string
		l    [][]api.Order
		want []api.Order
	}{
		{"no lists", nil, nil},
		{"no lists, but a list of them", [][]api.Order{}, nil},
		{"an empty list", [][]api.Order{nil}, nil},
		{"empty lists", [][]api.Order{nil, {}, nil}, nil},
		{"very many empty lists", make([][]api.Order, 5000), nil},
		{"one list", [][]api.Order{few()}, []api.Order{train(0, 3, 0), stop(0, 3), march(1, 12, 0), gather(2, 4, 100), train(3, 0, 2)}},
		{"one list among empty ones", [][]api.Order{nil, {stop(1, 1), stop(0, 0)}, {}}, []api.Order{stop(0, 0), stop(1, 1)}},
		{"two players", [][]api.Order{{march(1, 0, 5)}, {march(0, 0, 6)}}, []api.Order{march(0, 0, 6), march(1, 0, 5)}},
		{"a later list takes an earlier one's place", [][]api.Order{{march(0, 1, 5)}, {march(0, 1, 6)}}, []api.Order{march(0, 1, 6)}},
		{"and in the other order", [][]api.Order{{march(0, 1, 6)}, {march(0, 1, 5)}}, []api.Order{march(0, 1, 5)}},
		{"of three lists the last", [][]api.Order{{march(0, 1, 1)}, {march(0, 1, 2)}, {march(0, 1, 3)}}, []api.Order{march(0, 1, 3)}},
		{"the last one in the list between", [][]api.Order{{march(0, 1, 1)}, {march(0, 1, 2)}, {march(0, 2, 3)}}, []api.Order{march(0, 1, 2), march(0, 2, 3)}},
		{"trains of several lists, in their order", [][]api.Order{{train(0, 1, 7)}, {stop(0, 1)}, {train(0, 1, 3)}, {train(0, 1, 5)}},
			[]api.Order{train(0, 1, 7), train(0, 1, 3), train(0, 1, 5), stop(0, 1)}},
		{"60 of one list", [][]api.Order{times(60, train(1, 1, 1))}, times(60, train(1, 1, 1))},
		{"60 of two lists", [][]api.Order{times(30, train(1, 1, 1)), times(30, train(1, 1, 1))}, times(60, train(1, 1, 1))},
		{"60 and empty ones", [][]api.Order{nil, times(60, stop(1, 1)), {}}, []api.Order{stop(1, 1)}},
		{"1 and 59", [][]api.Order{{stop(0, 0)}, times(59, march(1, 1, 1))}, []api.Order{stop(0, 0), march(1, 1, 1)}},
	} {
		if got, err := orders.Merge(c.l); !slices.Equal(got, c.want) || err != nil {
			t.Errorf("%s: got %v, %v; want %v", c.name, got, err, c.want)
		}
	}
}

// TestMergeFull: O2, more than 60 in all, told ahead of what is wrong with an order.
func TestMergeFull(t *testing.T) {
	bad := march(0, 0, -1)
	for _, l := range [][][]api.Order{
		{some(61)}, {some(60), {stop(0, 0)}}, {{stop(0, 0)}, some(60)}, {some(30), some(31)}, {some(20), some(20), some(20), {stop(0, 0)}},
		{some(60), some(60)}, {some(60), nil, some(1)}, {times(61, stop(0, 0))}, {times(60, stop(0, 0)), {stop(0, 0)}},
		slices.Repeat([][]api.Order{{stop(0, 0)}}, 61), slices.Repeat([][]api.Order{some(60)}, 5000),
		{times(61, bad)}, {{bad}, some(60)}, {some(60), {bad}}, {{bad}, some(30), some(30)}, {{bad, bad}, some(61)},
	} {
		if got, err := orders.Merge(l); got != nil || plain.Told(err) != api.ErrFull {
			t.Errorf("%v: got %v, %v", l, got, err)
		}
	}
}

// TestMergeOfWrong: O2, a wrong order in any of the lists.
func TestMergeOfWrong(t *testing.T) {
	for _, bad := range none {
		for at := range 3 {
			l := [][]api.Order{some(5), few(), some(48)}
			l[at] = append([]api.Order{bad}, l[at]...)
			if got, err := orders.Merge(l); got != nil || plain.Told(err) != api.ErrRange {
				t.Errorf("%v in list %d: got %v, %v", bad, at, got, err)
			}
			l[at] = append(l[at][1:], bad)
			if got, err := orders.Merge(l); got != nil || plain.Told(err) != api.ErrRange {
				t.Errorf("%v at the end of list %d: got %v, %v", bad, at, got, err)
			}
		}
		if got, err := orders.Merge([][]api.Order{nil, {bad}, nil}); got != nil || plain.Told(err) != api.ErrRange {
			t.Errorf("%v alone: got %v, %v", bad, got, err)
		}
	}
}

// TestMergeOfDrawn: O2, drawn lists; the lists stay, as does what stands behind them.
func TestMergeOfDrawn(t *testing.T) {
	r := rand.New(rand.NewSource(7))
	for range 3000 {
		var all, memory, before []api.Order
		memory = drawn(r, 70, 9)
		before = slices.Clone(memory)
		var lists [][]api.Order
		for at := 0; at < 60; {
			n := min(r.Intn(20), 60-at)
			lists = append(lists, memory[at:at+n])
			at += n + r.Intn(5)
		}
		r.Shuffle(len(lists), func(a, b int) { lists[a], lists[b] = lists[b], lists[a] })
		kept := slices.Clone(lists)
		for _, l := range lists {
			all = append(all, l...)
		}
		got, err := orders.Merge(lists)
		if want := wantLast(all, 9); !slices.Equal(got, want) || err != nil {
			t.Fatalf("%v: got %v, %v; want %v", lists, got, err, want)
		}
		if !slices.Equal(memory, before) || !slices.EqualFunc(lists, kept, slices.Equal[[]api.Order]) {
			t.Fatalf("was %v, is %v", before, memory)
		}
	}
}
