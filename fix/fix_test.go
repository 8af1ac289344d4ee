package fix_test

import (
	"math"
	"math/big"
	"testing"

	"marchland/api"
	"marchland/fix"
	"marchland/plain"
)

const (
	one   = 65536
	limit = 1 << 40
)

// same holds what a call answered against what it should have.
func same(t *testing.T, call string, args []int, got int, err error, want int, told api.Errno) {
	t.Helper()
	if got != want || plain.Told(err) != told {
		t.Errorf("%s%v: got %d, %v; want %d, %v", call, args, got, err, want, told)
	}
}

func TestOf(t *testing.T) {
	for _, c := range []struct {
		n, want int
		told    api.Errno
	}{
		{0, 0, api.OK},
		{1, one, api.OK},
		{-1, -one, api.OK},
		{12, 786432, api.OK},
		{api.MaxNumber - 1, 65535934464, api.OK},
		{api.MaxNumber, 65536000000, api.OK},
		{-api.MaxNumber, -65536000000, api.OK},
		{api.MaxNumber + 1, 0, api.ErrRange},
		{-api.MaxNumber - 1, 0, api.ErrRange},
		{limit, 0, api.ErrRange},
		{-limit, 0, api.ErrRange},
		{1 << 48, 0, api.ErrRange},
		{math.MaxInt, 0, api.ErrRange},
		{math.MinInt, 0, api.ErrRange},
	} {
		got, err := fix.Of(c.n)
		same(t, "Of", []int{c.n}, got, err, c.want, c.told)
	}
}

func TestWhole(t *testing.T) {
	for _, c := range []struct{ x, want int }{
		{0, 0},
		{1, 0},
		{one - 1, 0},
		{one, 1},
		{one + 1, 1},
		{2*one - 1, 1},
		{-1, -1},
		{-one + 1, -1},
		{-one, -1},
		{-one - 1, -2},
		{-2 * one, -2},
		{api.MaxNumber, 15},
		{-api.MaxNumber, -16},
		{limit, 1 << 24},
		{limit - 1, 1<<24 - 1},
		{limit + 1, 1 << 24},
		{-limit, -1 << 24},
		{-limit - 1, -1<<24 - 1},
		{math.MaxInt, 1<<47 - 1},
		{math.MinInt, -1 << 47},
		{math.MinInt + 1, -1 << 47},
	} {
		if got := fix.Whole(c.x); got != c.want {
			t.Errorf("Whole(%d): got %d, want %d", c.x, got, c.want)
		}
	}
}

// TestWholeOf: each whole number that may be comes back, and so it does with any part.
func TestWholeOf(t *testing.T) {
	for n := -api.MaxNumber; n <= api.MaxNumber; n += 997 {
		x, err := fix.Of(n)
		if err != nil || fix.Whole(x) != n || fix.Whole(x+one-1) != n {
			t.Errorf("Of(%d): got %d, %v, and Whole of it %d, %d", n, x, err, fix.Whole(x), fix.Whole(x+one-1))
		}
	}
}

func TestMul(t *testing.T) {
	for _, c := range []struct {
		a, b, want int
		told       api.Errno
	}{
		{0, 0, 0, api.OK},
		{2 * one, 3 * one, 6 * one, api.OK},
		{one / 2, one / 2, one / 4, api.OK},
		{-one, one / 2, -one / 2, api.OK},
		{-2 * one, -3 * one, 6 * one, api.OK},
		{1, 1, 0, api.OK},
		{1, -1, -1, api.OK},
		{-1, 1, -1, api.OK},
		{-1, -1, 0, api.OK},
		{3, one / 2, 1, api.OK},
		{-3, one / 2, -2, api.OK},
		{limit, 0, 0, api.OK},
		{0, -limit, 0, api.OK},
		{limit, one, limit, api.OK},
		{-limit, one, -limit, api.OK},
		{limit, -one, -limit, api.OK},
		{-limit, -one, limit, api.OK},
		{limit, 1, 1 << 24, api.OK},
		{1 << 28, 1 << 28, limit, api.OK},
		{-1 << 28, 1 << 28, -limit, api.OK},
		// 2^56 + 65535 is the greatest that rounds down to 2^40; below 0 it rounds beyond.
		{3962177, 18186364223, limit, api.OK},
		{-3962177, 18186364223, 0, api.ErrFull},
		{65792, 1095233372416, 0, api.ErrFull},
		{limit - 1, one, limit - 1, api.OK},
		{limit, one + 1, 0, api.ErrFull},
		{limit, -one - 1, 0, api.ErrFull},
		{limit / 2, 2*one + 1, 0, api.ErrFull},
		{limit, limit, 0, api.ErrFull},
		{-limit, limit, 0, api.ErrFull},
		{-limit, -limit, 0, api.ErrFull},
		{1 << 32, 1 << 32, 0, api.ErrFull},
		{1 << 32, -1 << 32, 0, api.ErrFull},
		{limit + 1, 0, 0, api.ErrRange},
		{0, limit + 1, 0, api.ErrRange},
		{-limit - 1, 0, 0, api.ErrRange},
		{0, -limit - 1, 0, api.ErrRange},
		{limit + 1, limit, 0, api.ErrRange},
		{limit, -limit - 1, 0, api.ErrRange},
		{math.MaxInt, 1, 0, api.ErrRange},
		{1, math.MaxInt, 0, api.ErrRange},
		{math.MinInt, -1, 0, api.ErrRange},
		{-1, math.MinInt, 0, api.ErrRange},
		{math.MinInt, math.MinInt, 0, api.ErrRange},
	} {
		got, err := fix.Mul(c.a, c.b)
		same(t, "Mul", []int{c.a, c.b}, got, err, c.want, c.told)
	}
}

func TestDiv(t *testing.T) {
	for _, c := range []struct {
		a, b, want int
		told       api.Errno
	}{
		{0, 1, 0, api.OK},
		{0, -limit, 0, api.OK},
		{6 * one, 3 * one, 2 * one, api.OK},
		{one, 2 * one, one / 2, api.OK},
		{one, 3 * one, 21845, api.OK},
		{-one, 3 * one, -21846, api.OK},
		{one, -3 * one, -21846, api.OK},
		{-one, -3 * one, 21845, api.OK},
		{-6 * one, 3 * one, -2 * one, api.OK},
		{1, limit, 0, api.OK},
		{-1, limit, -1, api.OK},
		{1, -limit, -1, api.OK},
		{limit, limit, one, api.OK},
		{limit, -limit, -one, api.OK},
		{limit, one, limit, api.OK},
		{limit, -one, -limit, api.OK},
		{-limit, one, -limit, api.OK},
		{-limit, -one, limit, api.OK},
		{limit >> 16, 1, limit, api.OK},
		{limit >> 16, -1, -limit, api.OK},
		{limit>>16 + 1, 1, 0, api.ErrFull},
		{limit>>16 + 1, -1, 0, api.ErrFull},
		{limit, one - 1, 0, api.ErrFull},
		{limit, 1 - one, 0, api.ErrFull},
		{limit, 1, 0, api.ErrFull},
		{-limit, 1, 0, api.ErrFull},
		{-limit, -1, 0, api.ErrFull},
		{0, 0, 0, api.ErrRange},
		{1, 0, 0, api.ErrRange},
		{limit, 0, 0, api.ErrRange},
		{limit + 1, 1, 0, api.ErrRange},
		{-limit - 1, 1, 0, api.ErrRange},
		{1, limit + 1, 0, api.ErrRange},
		{1, -limit - 1, 0, api.ErrRange},
		{math.MaxInt, 1, 0, api.ErrRange},
		{math.MinInt, -1, 0, api.ErrRange},
		{1, math.MaxInt, 0, api.ErrRange},
		{1, math.MinInt, 0, api.ErrRange},
		{math.MinInt, 0, 0, api.ErrRange},
	} {
		got, err := fix.Div(c.a, c.b)
		same(t, "Div", []int{c.a, c.b}, got, err, c.want, c.told)
	}
}

// edges are numbers at which something changes, their neighbours, and the same below 0.
func edges() []int {
	l := []int{math.MinInt, math.MaxInt, math.MinInt + 1}
	for _, x := range []int{0, 3, 7, 1000, one / 2, one, 3 * one, 1 << 20, api.MaxNumber, 1 << 24,
		1 << 28, 1 << 31, 1 << 32, 3037000499, api.MaxNumber * one, limit / 2, limit, 1 << 48, 1 << 62} {
		for d := -2; d <= 2; d++ {
			l = append(l, x+d, -x-d)
		}
	}
	return l
}

// exact is n over d, rounded down, as Mul and Div have it to answer; d is not 0.
func exact(n, d *big.Int) (int, api.Errno) {
	if d.Sign() < 0 {
		n, d = new(big.Int).Neg(n), new(big.Int).Neg(d)
	}
	q := new(big.Int).Div(n, d)
	if q.CmpAbs(big.NewInt(limit)) > 0 {
		return 0, api.ErrFull
	}
	return int(q.Int64()), api.OK
}

func wantMul(a, b int) (int, api.Errno) {
	if a < -limit || a > limit || b < -limit || b > limit {
		return 0, api.ErrRange
	}
	return exact(new(big.Int).Mul(big.NewInt(int64(a)), big.NewInt(int64(b))), big.NewInt(one))
}

func wantDiv(a, b int) (int, api.Errno) {
	if a < -limit || a > limit || b < -limit || b > limit || b == 0 {
		return 0, api.ErrRange
	}
	return exact(new(big.Int).Mul(big.NewInt(int64(a)), big.NewInt(one)), big.NewInt(int64(b)))
}

// TestMulDivAtEdges holds Mul and Div, at all pairs of edges, against numbers without a bound.
func TestMulDivAtEdges(t *testing.T) {
	for _, a := range edges() {
		for _, b := range edges() {
			got, err := fix.Mul(a, b)
			want, told := wantMul(a, b)
			same(t, "Mul", []int{a, b}, got, err, want, told)
			got, err = fix.Div(a, b)
			want, told = wantDiv(a, b)
			same(t, "Div", []int{a, b}, got, err, want, told)
		}
	}
}

// TestMulAboutLimit: products about 2^56, where rounding down decides whether they are too great.
func TestMulAboutLimit(t *testing.T) {
	for a := 1<<16 - 40; a <= 1<<17+40; a += 13 {
		for d := -2; d <= 2; d++ {
			b := (1<<56+65536)/a + d
			for _, c := range [][2]int{{a, b}, {-a, b}, {a, -b}, {-a, -b}, {b, a}, {b, -a}} {
				got, err := fix.Mul(c[0], c[1])
				want, told := wantMul(c[0], c[1])
				same(t, "Mul", c[:], got, err, want, told)
			}
		}
	}
}

func TestRoot(t *testing.T) {
	const most = 3037000499
	for _, c := range []struct {
		n, want int
		told    api.Errno
	}{
		{0, 0, api.OK},
		{1, 1, api.OK},
		{2, 1, api.OK},
		{3, 1, api.OK},
		{4, 2, api.OK},
		{24, 4, api.OK},
		{25, 5, api.OK},
		{26, 5, api.OK},
		{api.MaxNumber, 1000, api.OK},
		{limit, 1 << 20, api.OK},
		{limit - 1, 1<<20 - 1, api.OK},
		{1<<62 - 1, 1<<31 - 1, api.OK},
		{1 << 62, 1 << 31, api.OK},
		{most*most - 1, most - 1, api.OK},
		{most * most, most, api.OK},
		{math.MaxInt - 1, most, api.OK},
		{math.MaxInt, most, api.OK},
		{-1, 0, api.ErrRange},
		{-4, 0, api.ErrRange},
		{-limit, 0, api.ErrRange},
		{math.MinInt + 1, 0, api.ErrRange},
		{math.MinInt, 0, api.ErrRange},
	} {
		got, err := fix.Root(c.n)
		same(t, "Root", []int{c.n}, got, err, c.want, c.told)
	}
}

// TestRootAtSquares: at a square it is its root, one below that the number below.
func TestRootAtSquares(t *testing.T) {
	for r := 1; r <= 3037000499; r += 1 + r/50 {
		got, err := fix.Root(r * r)
		same(t, "Root", []int{r * r}, got, err, r, api.OK)
		got, err = fix.Root(r*r - 1)
		same(t, "Root", []int{r*r - 1}, got, err, r-1, api.OK)
	}
}

func TestFar(t *testing.T) {
	const most = api.MaxNumber
	for _, c := range []struct {
		ax, ay, bx, by, want int
		told                 api.Errno
	}{
		{0, 0, 0, 0, 0, api.OK},
		{5, -7, 5, -7, 0, api.OK},
		{0, 0, 3, 4, 5, api.OK},
		{3, 4, 0, 0, 5, api.OK},
		{-1, -2, 2, 2, 5, api.OK},
		{0, 0, 1, 1, 1, api.OK},
		{0, 0, 2, 2, 2, api.OK},
		{0, 9, 0, 0, 9, api.OK},
		{-9, 0, 0, 0, 9, api.OK},
		{most, most, most, most, 0, api.OK},
		{-most, 0, most, 0, 2 * most, api.OK},
		{0, most, 0, -most, 2 * most, api.OK},
		{-most, -most, most, most, 2828427, api.OK},
		{most, -most, -most, most, 2828427, api.OK},
	} {
		got, err := fix.Far(c.ax, c.ay, c.bx, c.by)
		same(t, "Far", []int{c.ax, c.ay, c.bx, c.by}, got, err, c.want, c.told)
	}
}

// TestFarOfWrong: each of the four numbers is asked, even where the places are one.
func TestFarOfWrong(t *testing.T) {
	for _, x := range []int{api.MaxNumber + 1, -api.MaxNumber - 1, limit, -limit, math.MaxInt, math.MinInt} {
		for i := range 4 {
			var p [4]int
			p[i] = x
			got, err := fix.Far(p[0], p[1], p[2], p[3])
			same(t, "Far", p[:], got, err, 0, api.ErrRange)
		}
		got, err := fix.Far(x, x, x, x)
		same(t, "Far", []int{x, x, x, x}, got, err, 0, api.ErrRange)
	}
}

// TestFarAtEdges: at all edges none panics, and the answer is the one way round as the other.
func TestFarAtEdges(t *testing.T) {
	for _, x := range edges() {
		for _, y := range edges() {
			got, err := fix.Far(x, y, y, 1)
			want, told := 0, api.ErrRange
			if max(x, y) <= api.MaxNumber && min(x, y) >= -api.MaxNumber {
				told = api.OK
				want, _ = fix.Root((x-y)*(x-y) + (y-1)*(y-1))
			}
			same(t, "Far", []int{x, y, y, 1}, got, err, want, told)
			back, bad := fix.Far(y, 1, x, y)
			same(t, "Far", []int{y, 1, x, y}, back, bad, want, told)
		}
	}
}
