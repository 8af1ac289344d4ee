package dice_test

import (
	"math"
	"math/big"
	"slices"
	"strconv"
	"testing"

	"marchland/api"
	"marchland/dice"
	"marchland/plain"
)

// seeds are ordinary ones, and those at the edges.
var seeds = []int{0, 1, -1, 2, 7, 42, -42, 65536, 123456789, -987654321, api.MaxNumber, 1<<62 - 1, 1 << 62,
	-1 << 62, math.MaxInt - 1, math.MaxInt, math.MinInt, math.MinInt + 1}

func hex(s string) *big.Int {
	n, _ := new(big.Int).SetString(s, 16)
	return n
}

// The numbers of D1 and D2, as unbounded ones.
var (
	round = new(big.Int).Lsh(big.NewInt(1), 64)
	step  = hex("9E3779B97F4A7C15")
	first = hex("BF58476D1CE4E5B9")
	then  = hex("94D049BB133111EB")
	fork  = hex("D1342543DE82EF95")
)

// bits of a number, from 0 to 2^64 - 1.
func bits(n int) *big.Int { return new(big.Int).Mod(big.NewInt(int64(n)), round) }

// signed is the number with a sign that has these bits.
func signed(x *big.Int) int {
	if x.Bit(63) == 1 {
		x = new(big.Int).Sub(x, round)
	}
	return int(x.Int64())
}

// spread is one of the three lines of D1: exclusive-or with itself over 2^by.
func spread(z *big.Int, by uint) *big.Int { return new(big.Int).Xor(z, new(big.Int).Rsh(z, by)) }

// times multiplies modulo 2^64.
func times(a, b *big.Int) *big.Int { return new(big.Int).Mod(new(big.Int).Mul(a, b), round) }

// drawn is D1 in unbounded numbers: the state behind a state, and what is answered.
func drawn(state int) (next, answer int) {
	x := new(big.Int).Add(bits(state), step)
	x.Mod(x, round)
	z := times(spread(x, 30), first)
	z = times(spread(z, 27), then)
	z = spread(z, 31)
	return signed(x), int(new(big.Int).Rsh(z, 2).Int64())
}

// ahead is the state from which Next answers a number: D1, gone through from its end.
func ahead(answer int) int {
	z := new(big.Int).Lsh(big.NewInt(int64(answer)), 2)
	back := func(by uint) { z = spread(spread(z, by), 2*by) }
	back(31)
	z = times(z, new(big.Int).ModInverse(then, round))
	back(27)
	z = times(z, new(big.Int).ModInverse(first, round))
	back(30)
	return signed(z.Sub(z, step).Mod(z, round))
}

// TestNextKnown: D1, numbers that stand written.
func TestNextKnown(t *testing.T) {
	for _, c := range []struct {
		seed int
		want []int
	}{
		// What the seeds 0 and 1234567 give with all 64 bits is well known; here each is over 4.
		{0, []int{0xE220A8397B1DCDAF >> 2, 0x6E789E6AA1B965F4 >> 2, 0x06C45D188009454F >> 2}},
		{1234567, []int{6457827717110365317 >> 2, 3203168211198807973 >> 2, 9817491932198370423 >> 2,
			4593380528125082431 >> 2, 16408922859458223821 >> 2}},
	} {
		d := dice.New(c.seed)
		for i, want := range c.want {
			if got := d.Next(); got != want {
				t.Errorf("seed %d, draw %d: got %d, want %d", c.seed, i, got, want)
			}
		}
	}
}

// TestNext: D1, one draw behind the other.
func TestNext(t *testing.T) {
	for _, seed := range seeds {
		d, state := dice.New(seed), seed
		if d.State() != seed {
			t.Errorf("seed %d: the first state is %d", seed, d.State())
		}
		for i := range 50 {
			next, want := drawn(state)
			state = next
			if got := d.Next(); got != want || d.State() != state {
				t.Fatalf("seed %d, draw %d: got %d, state %d; want %d, %d", seed, i, got, d.State(), want, state)
			}
		}
	}
}

// TestNextEdges: D1, the least and the greatest answers are met.
func TestNextEdges(t *testing.T) {
	for _, want := range []int{0, 1, 1<<61 - 1, 1 << 61, 1<<62 - 2, 1<<62 - 1} {
		if got := dice.New(ahead(want)).Next(); got != want {
			t.Errorf("seed %d: got %d, want %d", ahead(want), got, want)
		}
	}
}

// TestTwoGoAlone: what one draws hangs on its own calls.
func TestTwoGoAlone(t *testing.T) {
	a, b := dice.New(5), dice.New(5)
	for range 3 {
		dice.New(6).Next()
		a.Next()
	}
	state := 5
	for i := range 5 {
		next, want := drawn(state)
		state = next
		if got := b.Next(); got != want {
			t.Errorf("draw %d: got %d, want %d", i, got, want)
		}
	}
}

// below is D2 in unbounded numbers.
func below(state, n int) (next, answer int) {
	all := new(big.Int).Lsh(big.NewInt(1), 62)
	end := new(big.Int).Div(all, big.NewInt(int64(n)))
	end.Mul(end, big.NewInt(int64(n)))
	for {
		state, answer = drawn(state)
		if big.NewInt(int64(answer)).Cmp(end) < 0 {
			return state, answer % n
		}
	}
}

var sizes = []int{1, 2, 3, 4, 5, 6, 7, 10, 16, 100, 144, 1000, 65536, 524288, 999983, api.MaxNumber - 1, api.MaxNumber}

// TestBelow: D2, ordinary numbers and those at the edges.
func TestBelow(t *testing.T) {
	for _, seed := range seeds {
		d, state := dice.New(seed), seed
		for _, n := range sizes {
			next, want := below(state, n)
			state = next
			got, err := d.Below(n)
			if got != want || err != nil || d.State() != state {
				t.Fatalf("seed %d, below %d: got %d, %v, state %d; want %d, %d", seed, n, got, err, d.State(), want, state)
			}
		}
	}
}

// TestBelowDrawsAgain: D2, what is not below the greatest multiple is drawn once more.
func TestBelowDrawsAgain(t *testing.T) {
	for _, n := range sizes {
		end := 1<<62 - (1<<62)%n
		for _, c := range []struct {
			answer int
			again  bool
		}{{0, false}, {n - 1, false}, {end - 1, false}, {end, true}, {1<<62 - 1, end < 1<<62}} {
			if c.answer == 1<<62 {
				continue // n goes into 2^62: there is nothing to leave out
			}
			seed := ahead(c.answer)
			d := dice.New(seed)
			state, want := drawn(seed)
			if c.again {
				state, want = drawn(state)
			}
			got, err := d.Below(n)
			if got != want%n || err != nil || d.State() != state {
				t.Errorf("below %d, first draw %d: got %d, %v, state %d; want %d, %d", n, c.answer, got, err,
					d.State(), want%n, state)
			}
		}
	}
}

// TestBelowWrong: D2, and P1: nothing is drawn then.
func TestBelowWrong(t *testing.T) {
	for _, seed := range seeds {
		d := dice.New(seed)
		for _, n := range []int{0, -1, -2, -api.MaxNumber, api.MaxNumber + 1, 1 << 40, 1 << 62, math.MaxInt, math.MinInt} {
			got, err := d.Below(n)
			if got != 0 || plain.Told(err) != api.ErrRange || d.State() != seed {
				t.Errorf("seed %d, below %d: got %d, %v, state %d", seed, n, got, err, d.State())
			}
		}
	}
}

// TestBelowAlike: D2, each comes about as often.
func TestBelowAlike(t *testing.T) {
	d := dice.New(1)
	var often [6]int
	for range 60000 {
		x, _ := d.Below(6)
		often[x]++
	}
	for x, n := range often {
		if n < 9500 || n > 10500 {
			t.Errorf("%d came %d times of 60000", x, n)
		}
	}
}

// counted is a list of as many numbers, all of them different.
func counted(n int) []int {
	l := make([]int, n)
	for i := range l {
		l[i] = i*7 - 3
	}
	return l
}

// mixed is D2's Mix by a second way: who stands at a place is taken out of those that are left.
func mixed(state int, l []int) (int, []int) {
	left := slices.Clone(l)
	var behind []int
	for len(left) > 1 {
		next, at := below(state, len(left))
		state = next
		behind = append(behind, left[at])
		left[at] = left[len(left)-1]
		left = left[:len(left)-1]
	}
	slices.Reverse(behind)
	return state, append(left, behind...)
}

// TestMix: D2, lists of all lengths that may be, twice in a row.
func TestMix(t *testing.T) {
	for n := range api.MaxItems + 1 {
		for _, seed := range []int{0, -1, n, math.MaxInt, math.MinInt} {
			d, state := dice.New(seed), seed
			for range 2 {
				next, want := mixed(state, counted(n))
				state = next
				got, err := d.Mix(counted(n))
				if !slices.Equal(got, want) || err != nil || d.State() != state {
					t.Fatalf("seed %d, %d items: got %v, %v, state %d; want %v, %d", seed, n, got, err, d.State(), want, state)
				}
			}
		}
	}
}

// TestMixKeeps: D2, items are any numbers, and some of them alike; all of them are in the answer.
func TestMixKeeps(t *testing.T) {
	l := []int{5, 5, math.MinInt, 0, math.MaxInt, -1, 5, 0}
	for _, seed := range seeds {
		_, want := mixed(seed, l)
		if got, err := dice.New(seed).Mix(l); !slices.Equal(got, want) || err != nil {
			t.Errorf("seed %d: got %v, %v; want %v", seed, got, err, want)
		}
	}
}

// TestMixDrawsNone: D2, of no item and of one nothing is drawn.
func TestMixDrawsNone(t *testing.T) {
	for _, l := range [][]int{nil, {}, {9}} {
		d := dice.New(3)
		if got, err := d.Mix(l); !slices.Equal(got, l) || err != nil || d.State() != 3 {
			t.Errorf("%v: got %v, %v, state %d", l, got, err, d.State())
		}
	}
}

// TestMixFull: D2, and P1: nothing is drawn then.
func TestMixFull(t *testing.T) {
	for _, n := range []int{api.MaxItems + 1, api.MaxItems + 2, 5000} {
		d := dice.New(3)
		if got, err := d.Mix(counted(n)); len(got) != 0 || plain.Told(err) != api.ErrFull || d.State() != 3 {
			t.Errorf("%d items: got %d, %v, state %d", n, len(got), err, d.State())
		}
	}
}

// TestMixLeavesLists: P2 and P4, what is handed in stays, and what comes out is the caller's.
func TestMixLeavesLists(t *testing.T) {
	for _, n := range []int{1, 2, 10, api.MaxItems, api.MaxItems + 1} {
		whole := counted(n + 5)
		l := whole[:n]
		d := dice.New(n)
		got, _ := d.Mix(l)
		if !slices.Equal(whole, counted(n+5)) {
			t.Fatalf("%d items: the list that was handed in became %v", n, whole)
		}
		kept := slices.Clone(got)
		clear(whole)
		again, _ := d.Mix(counted(n))
		clear(again[:cap(again)])
		if !slices.Equal(got, kept) {
			t.Errorf("%d items: the answer shares memory with another list", n)
		}
	}
}

// TestFork: D2, at the edges, and that the one it was forked from goes on as it would have.
func TestFork(t *testing.T) {
	for _, seed := range seeds {
		for _, k := range []int{0, 1, -1, 2, 12, -7, api.MaxNumber, 1 << 40, math.MaxInt, math.MinInt} {
			d := dice.New(seed)
			d.Next()
			here, _ := drawn(seed)
			want := signed(new(big.Int).Xor(bits(here), times(bits(k), fork)))
			other := d.Fork(k)
			if other.State() != want || d.State() != here {
				t.Fatalf("seed %d, fork %d: got %d, want %d; state %d became %d", seed, k, other.State(), want, here, d.State())
			}
			goOn(t, other, want)
			goOn(t, d, here)
		}
	}
}

// goOn holds what one draws next against D1.
func goOn(t *testing.T, d *dice.Dice, state int) {
	t.Helper()
	for i := range 4 {
		next, want := drawn(state)
		if got := d.Next(); got != want || d.State() != next {
			t.Fatalf("draw %d: got %d, state %d; want %d, %d", i, got, d.State(), want, next)
		}
		state = next
	}
}

// TestForkKnown: D2, numbers that stand written.
func TestForkKnown(t *testing.T) {
	factor, _ := strconv.ParseUint("D1342543DE82EF95", 16, 64)
	for _, c := range []struct{ seed, k, want int }{
		{0, 0, 0},
		{-5, 0, -5},
		{0, 1, int(factor)},
		{0, -1, -int(factor)},
		{-1, 1, -1 - int(factor)},
		{0, math.MinInt, math.MinInt},
		{math.MinInt, math.MinInt, 0},
	} {
		if got := dice.New(c.seed).Fork(c.k).State(); got != c.want {
			t.Errorf("seed %d, fork %d: got %d, want %d", c.seed, c.k, got, c.want)
		}
	}
}

// TestForkTwice: forks of the same number are the same, and are two.
func TestForkTwice(t *testing.T) {
	d := dice.New(77)
	a, b := d.Fork(3), d.Fork(3)
	if a.Next() != b.Next() || a.State() != b.State() {
		t.Error("two forks of the same number are not the same")
	}
	a.Next()
	if a.State() == b.State() || d.State() != 77 {
		t.Error("a fork draws for another one")
	}
}
