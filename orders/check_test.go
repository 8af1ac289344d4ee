package orders_test

import (
	"math"
	"slices"
	"testing"

	"marchland/api"
	"marchland/orders"
	"marchland/plain"
)

func order(player, unit, what, arg int) api.Order {
	return api.Order{Player: player, Unit: unit, What: what, Arg: arg}
}

func stop(player, unit int) api.Order        { return order(player, unit, api.DoStop, 0) }
func march(player, unit, arg int) api.Order  { return order(player, unit, api.DoMarch, arg) }
func gather(player, unit, arg int) api.Order { return order(player, unit, api.DoGather, arg) }
func train(player, unit, arg int) api.Order  { return order(player, unit, api.DoTrain, arg) }

// few are ordinary orders.
func few() []api.Order {
	return []api.Order{march(1, 12, 7), stop(0, 3), gather(2, 4, 100), train(3, 0, 2), train(0, 3, 0), march(1, 12, 0)}
}

// some are so many orders, each for a unit of its own.
func some(n int) []api.Order {
	var l []api.Order
	for i := range n {
		l = append(l, march(i%4, i, i))
	}
	return l
}

// times is a list of one order so many times.
func times(n int, o api.Order) []api.Order { return slices.Repeat([]api.Order{o}, n) }

// part is a number that an order has, and its most; the least is 0.
type part struct {
	name string
	most int
	of   func(o *api.Order) *int
}

var parts = []part{
	{"Player", 3, func(o *api.Order) *int { return &o.Player }},
	{"Unit", 1000000, func(o *api.Order) *int { return &o.Unit }},
	{"What", 3, func(o *api.Order) *int { return &o.What }},
	{"Arg", 1000000, func(o *api.Order) *int { return &o.Arg }},
}

// none are orders that may not be, each by one number.
var none = []api.Order{
	march(-1, 0, 0), march(4, 0, 0), march(math.MaxInt, 0, 0), march(math.MinInt, 0, 0),
	march(0, -1, 0), march(0, 1000001, 0), march(0, math.MaxInt, 0), march(0, math.MinInt, 0),
	march(0, 0, -1), march(0, 0, 1000001), march(0, 0, math.MaxInt), march(0, 0, math.MinInt),
	gather(0, 0, -1), gather(0, 0, 1000001), gather(4, 0, 0), train(0, 0, -1), train(0, 0, 1000001), train(0, -1, 0),
	order(0, 0, -1, 0), order(0, 0, 4, 0), order(0, 0, math.MaxInt, 0), order(0, 0, math.MinInt, 0),
	order(0, 0, api.DoStop, 1), order(0, 0, api.DoStop, -1), order(3, 7, api.DoStop, 1000000), order(0, 0, api.DoStop, math.MaxInt),
	stop(-1, 0), stop(4, 0), stop(0, -1), stop(0, 1000001),
	order(-1, -1, -1, -1), order(4, 1000001, 4, 1000001),
}

// wrong are lists with a fault, and what Check tells of each.
func wrong() (l []wrongList) {
	for _, o := range none {
		l = append(l,
			wrongList{[]api.Order{o}, api.ErrRange},
			wrongList{append([]api.Order{o}, few()...), api.ErrRange},
			wrongList{append(few(), o), api.ErrRange},
			wrongList{append(few(), o, o), api.ErrRange},
			wrongList{append(some(59), o), api.ErrRange},
			wrongList{append([]api.Order{o}, some(59)...), api.ErrRange},
			wrongList{append(some(60), o), api.ErrFull},
			wrongList{append([]api.Order{o}, some(60)...), api.ErrFull},
			wrongList{times(60, o), api.ErrRange},
			wrongList{times(61, o), api.ErrFull})
	}
	return append(l,
		wrongList{some(61), api.ErrFull},
		wrongList{times(61, stop(0, 0)), api.ErrFull},
		wrongList{make([]api.Order, 5000), api.ErrFull})
}

type wrongList struct {
	l    []api.Order
	told api.Errno
}

// TestCheckRight: O1, lists without a fault.
func TestCheckRight(t *testing.T) {
	for _, l := range [][]api.Order{nil, {}, few(), some(1), some(59), some(60), times(60, stop(0, 0)), times(60, train(3, 1000000, 1000000)), make([]api.Order, 60)} {
		if err := orders.Check(l); err != nil {
			t.Errorf("%v: got %v", l, err)
		}
	}
}

// TestCheckWrong: O1, each fault, at each place, and which one is told where two meet.
func TestCheckWrong(t *testing.T) {
	for _, c := range wrong() {
		if err := orders.Check(c.l); plain.Told(err) != c.told {
			t.Errorf("%d orders, %v: got %v, want %v", len(c.l), c.l, err, c.told)
		}
	}
}

// TestCheckNumbers: O1, each number at its bounds and beyond, in the first order and in a later one.
func TestCheckNumbers(t *testing.T) {
	for _, p := range parts {
		for _, n := range []int{0, 1, p.most - 1, p.most, -1, p.most + 1, -1000, 2000000, math.MaxInt, math.MinInt, 1 << 32, 1 << 40} {
			want := api.OK
			if n < 0 || n > p.most {
				want = api.ErrRange
			}
			for at := range 3 {
				l := []api.Order{gather(1, 5, 0), train(1, 5, 0), march(1, 5, 0)}
				*p.of(&l[at]) = n
				if err := orders.Check(l); plain.Told(err) != want {
					t.Errorf("%s %d of order %d: got %v, want %v", p.name, n, at, err, want)
				}
			}
		}
	}
}

// TestCheckStop: O1, of DoStop alone Arg is 0.
func TestCheckStop(t *testing.T) {
	for what := api.DoStop; what <= api.DoTrain; what++ {
		for _, arg := range []int{0, 1, 2, 999999, 1000000} {
			want := api.OK
			if what == api.DoStop && arg != 0 {
				want = api.ErrRange
			}
			if err := orders.Check([]api.Order{order(3, 9, what, arg)}); plain.Told(err) != want {
				t.Errorf("what %d, arg %d: got %v, want %v", what, arg, err, want)
			}
		}
	}
}

// hidden gives a list of the same orders, with others behind its length that may neither be read nor written.
func hidden(l []api.Order) (list, memory []api.Order) {
	memory = append(slices.Clone(l), march(2, 777, 777), order(-9, -9, -9, -9))
	return memory[:len(l)], memory
}

// TestOrdersStay: P2 and P4, no call writes into the orders, nor behind them, nor reads there.
func TestOrdersStay(t *testing.T) {
	lists := [][]api.Order{nil, few(), some(59), some(60), {train(1, 1, 1), stop(1, 1), march(0, 5, 5), train(0, 5, 6)}}
	for _, c := range wrong() {
		lists = append(lists, c.l)
	}
	for i, l := range lists {
		list, memory := hidden(l)
		before := slices.Clone(memory)
		plainAnswer, plainErr := orders.Last(slices.Clip(slices.Clone(l)))
		plainText, _ := orders.Print(slices.Clip(slices.Clone(l)))
		if err := orders.Check(list); plain.Told(err) != plain.Told(plainErr) {
			t.Errorf("list %d: checked as %v and as %v", i, err, plainErr)
		}
		if text, _ := orders.Print(list); text != plainText {
			t.Errorf("list %d: printed as %q and as %q", i, text, plainText)
		}
		if got, _ := orders.Last(list); !slices.Equal(got, plainAnswer) {
			t.Errorf("list %d: Last gives %v and %v", i, got, plainAnswer)
		}
		if got, _ := orders.Merge([][]api.Order{list}); !slices.Equal(got, plainAnswer) {
			t.Errorf("list %d: Merge gives %v and %v", i, got, plainAnswer)
		}
		orders.Merge([][]api.Order{list, {march(0, 0, 0)}})
		orders.Merge([][]api.Order{{march(0, 0, 0)}, list, list})
		if !slices.Equal(memory, before) {
			t.Errorf("list %d: was %v, is %v", i, before, memory)
		}
	}
}
