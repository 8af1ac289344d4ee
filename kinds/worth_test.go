package kinds_test

import (
	"math"
	"math/big"
	"math/rand"
	"slices"
	"testing"

	"marchland/api"
	"marchland/kinds"
	"marchland/plain"
)

// priced are kinds whose Life does not go evenly into Price.
func priced() []api.Kind {
	return []api.Kind{
		{Name: "a", Life: 3, Price: 10},
		{Name: "b", Life: 7, Price: 5},
		{Name: "c", Life: 1000, Price: 1000},
		{Name: "d", Life: 1000, Price: 999},
		{Name: "e", Life: 1, Price: 1000},
		{Name: "f", Life: 9, Price: 0},
	}
}

func unit(player, kind, life int) api.Unit { return api.Unit{Player: player, Kind: kind, Life: life} }

// times is a list of one unit so many times.
func times(n int, u api.Unit) []api.Unit {
	var l []api.Unit
	for range n {
		l = append(l, u)
	}
	return l
}

// TestWorth: K2, sums of each player, each unit rounded down for itself.
func TestWorth(t *testing.T) {
	for _, c := range []struct {
		name string
		u    []api.Unit
		want []int
	}{
		{"no units", nil, []int{0, 0, 0, 0}},
		{"an empty list", []api.Unit{}, []int{0, 0, 0, 0}},
		{"a whole one of player 0", []api.Unit{unit(0, 0, 3)}, []int{10, 0, 0, 0}},
		{"a whole one of player 1", []api.Unit{unit(1, 0, 3)}, []int{0, 10, 0, 0}},
		{"a whole one of player 2", []api.Unit{unit(2, 1, 7)}, []int{0, 0, 5, 0}},
		{"a whole one of player 3", []api.Unit{unit(3, 2, 1000)}, []int{0, 0, 0, 1000}},
		{"one of each", []api.Unit{unit(3, 0, 3), unit(2, 1, 7), unit(1, 3, 1000), unit(0, 4, 1)}, []int{1000, 999, 5, 10}},
		{"a third", []api.Unit{unit(0, 0, 1)}, []int{3, 0, 0, 0}},
		{"two thirds", []api.Unit{unit(0, 0, 2)}, []int{6, 0, 0, 0}},
		{"three thirds are not a whole", []api.Unit{unit(0, 0, 1), unit(0, 0, 1), unit(0, 0, 1)}, []int{9, 0, 0, 0}},
		{"a third and two", []api.Unit{unit(1, 0, 1), unit(1, 0, 2)}, []int{0, 9, 0, 0}},
		{"parts below 1 are nothing, however many", times(40, unit(2, 1, 1)), []int{0, 0, 0, 0}},
		{"parts of unlike kinds", []api.Unit{unit(0, 0, 1), unit(0, 1, 6), unit(0, 3, 1)}, []int{7, 0, 0, 0}},
		{"no life", []api.Unit{unit(0, 0, 0), unit(1, 4, 0)}, []int{0, 0, 0, 0}},
		{"no price", []api.Unit{unit(0, 5, 9)}, []int{0, 0, 0, 0}},
		{"all but one", []api.Unit{unit(0, 2, 999), unit(1, 3, 999)}, []int{999, 998, 0, 0}},
		{"the most units, of the greatest worth", times(40, unit(3, 2, 1000)), []int{0, 0, 0, 40000}},
		{"other numbers of a unit do not count", []api.Unit{{Id: -1, Player: 0, Kind: 0, At: -5, Life: 3, Load: 999, Task: 77, Goal: -8}}, []int{10, 0, 0, 0}},
	} {
		got, err := kinds.Worth(priced(), c.u)
		if !slices.Equal(got, c.want) || err != nil {
			t.Errorf("%s: got %v, %v; want %v", c.name, got, err, c.want)
		}
	}
}

// TestWorthOfNoKinds: K2, without kinds there may be no unit.
func TestWorthOfNoKinds(t *testing.T) {
	if got, err := kinds.Worth(nil, nil); !slices.Equal(got, []int{0, 0, 0, 0}) || err != nil {
		t.Errorf("no units: got %v, %v", got, err)
	}
	if got, err := kinds.Worth(nil, []api.Unit{unit(0, 0, 0)}); got != nil || plain.Told(err) != api.ErrRange {
		t.Errorf("a unit: got %v, %v", got, err)
	}
}

// TestWorthOfWrongUnits: K2, each number that may not be, in the first unit and in a later one.
func TestWorthOfWrongUnits(t *testing.T) {
	for _, u := range []api.Unit{
		unit(-1, 0, 1), unit(4, 0, 1), unit(math.MaxInt, 0, 1), unit(math.MinInt, 0, 1),
		unit(0, -1, 1), unit(0, 6, 1), unit(0, 7, 0), unit(0, 8, 0), unit(0, math.MaxInt, 1), unit(0, math.MinInt, 1),
		unit(0, 0, -1), unit(0, 0, 4), unit(0, 1, 8), unit(0, 2, 1001), unit(0, 4, 2), unit(0, 5, 10),
		unit(0, 0, math.MaxInt), unit(0, 0, math.MinInt), unit(9, 9, 9), unit(-1, -1, -1),
	} {
		for _, l := range [][]api.Unit{{u}, {u, unit(0, 0, 1)}, {unit(0, 0, 1), u}, append(times(39, unit(1, 1, 1)), u)} {
			if got, err := kinds.Worth(priced(), l); got != nil || plain.Told(err) != api.ErrRange {
				t.Errorf("%v of %d units: got %v, %v", u, len(l), got, err)
			}
		}
	}
}

// TestWorthFull: K2, MaxUnits and one more; that is told ahead of what is wrong with a unit.
func TestWorthFull(t *testing.T) {
	for _, c := range []struct {
		u    []api.Unit
		told api.Errno
	}{
		{times(39, unit(0, 0, 3)), api.OK},
		{times(40, unit(0, 0, 3)), api.OK},
		{times(41, unit(0, 0, 3)), api.ErrFull},
		{times(500, unit(0, 0, 3)), api.ErrFull},
		{times(41, unit(-1, 0, 3)), api.ErrFull},
		{times(40, unit(-1, 0, 3)), api.ErrRange},
	} {
		got, err := kinds.Worth(priced(), c.u)
		var want []int
		if c.told == api.OK {
			want = []int{10 * len(c.u), 0, 0, 0}
		}
		if !slices.Equal(got, want) || plain.Told(err) != c.told {
			t.Errorf("%d units: got %v, %v; want %v, %v", len(c.u), got, err, want, c.told)
		}
	}
}

// TestWorthOfWrongKinds: K2, what is wrong with the kinds comes first.
func TestWorthOfWrongKinds(t *testing.T) {
	for _, c := range wrong {
		for _, u := range [][]api.Unit{nil, {unit(0, 0, 0)}, {unit(0, 0, 1)}, {unit(-1, 0, 0)}, {unit(0, 99, 0)}, times(41, unit(0, 0, 0))} {
			if got, err := kinds.Worth(c.l, u); got != nil || plain.Told(err) != c.told {
				t.Errorf("%s, %d units: got %v, %v; want %v", c.name, len(u), got, err, c.told)
			}
		}
	}
}

// wantWorth is K2 with unbounded numbers.
func wantWorth(l []api.Kind, u []api.Unit, player int) int {
	sum := new(big.Int)
	for _, one := range u {
		if one.Player == player {
			part := new(big.Rat).SetFrac64(int64(l[one.Kind].Price)*int64(one.Life), int64(l[one.Kind].Life))
			sum.Add(sum, new(big.Int).Quo(part.Num(), part.Denom()))
		}
	}
	return int(sum.Int64())
}

// TestWorthOfDrawn: K2, drawn kinds and units.
func TestWorthOfDrawn(t *testing.T) {
	r := rand.New(rand.NewSource(5))
	for range 3000 {
		l := some(1 + r.Intn(8))
		for i := range l {
			l[i].Life, l[i].Price = 1+r.Intn(1000), r.Intn(1001)
		}
		var u []api.Unit
		for range r.Intn(41) {
			kind := r.Intn(len(l))
			u = append(u, unit(r.Intn(4), kind, r.Intn(l[kind].Life+1)))
		}
		got, err := kinds.Worth(l, u)
		if err != nil || len(got) != 4 {
			t.Fatalf("%v, %v: got %v, %v", l, u, got, err)
		}
		for player, sum := range got {
			if want := wantWorth(l, u, player); sum != want {
				t.Fatalf("%v, %v: player %d: got %d, want %d", l, u, player, sum, want)
			}
		}
	}
}

// TestWorthLeavesUnits: P2 and P4, units stay, those behind the list are neither read nor written, and answers share no memory.
func TestWorthLeavesUnits(t *testing.T) {
	memory := []api.Unit{unit(0, 0, 1), unit(3, 1, 7), unit(2, 2, 1000), unit(9, 9, 9)}
	before := slices.Clone(memory)
	got, err := kinds.Worth(priced(), memory[:2])
	again, _ := kinds.Worth(priced(), memory[:2])
	for i := range again[:cap(again)] {
		again[:cap(again)][i] = 7
	}
	if !slices.Equal(got, []int{3, 0, 0, 5}) || err != nil {
		t.Errorf("got %v, %v", got, err)
	}
	if !slices.Equal(memory, before) {
		t.Errorf("was %v, is %v", before, memory)
	}
}
