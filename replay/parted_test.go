package replay_test

import (
	"math"
	"math/rand"
	"slices"
	"testing"

	"marchland/api"
	"marchland/plain"
	"marchland/replay"
)

// parts holds what Parted tells of two lists, both ways round; -1: they are one.
func parts(t *testing.T, a, b []int, want int) {
	t.Helper()
	at, told := want, api.OK
	if want < 0 {
		at, told = 0, api.ErrNone
	}
	for range 2 {
		if got, err := replay.Parted(a, b); got != at || plain.Told(err) != told {
			t.Errorf("%v, %v: got %d, %v; want %d, %v", a, b, got, err, at, told)
		}
		a, b = b, a
	}
}

// TestParted: X2, lists that are one, or none; unlike at the first place, in the middle, at the last, at many; one the beginning of the other.
func TestParted(t *testing.T) {
	for _, c := range []struct {
		a, b []int
		want int
	}{
		{nil, nil, -1}, {nil, []int{}, -1}, {[]int{}, []int{}, -1},
		{[]int{7}, []int{7}, -1}, {[]int{1, 2, 3}, []int{1, 2, 3}, -1}, {[]int{0}, []int{0}, -1},
		{nil, []int{7}, 0}, {[]int{}, []int{7, 8, 9}, 0}, {nil, []int{0}, 0},
		{[]int{7}, []int{8}, 0}, {[]int{1, 2, 3}, []int{0, 2, 3}, 0}, {[]int{1, 2, 3}, []int{3, 2, 1}, 0},
		{[]int{1, 2, 3}, []int{1, 7, 3}, 1}, {[]int{1, 2, 3, 4}, []int{1, 2, 7, 8}, 2}, {[]int{1, 2, 3}, []int{1, 2, 4}, 2},
		{[]int{1, 2, 3}, []int{1, 2}, 2}, {[]int{1, 2, 3}, []int{1}, 1}, {[]int{1, 2, 0}, []int{1, 2}, 2}, {[]int{1, 1, 1}, []int{1}, 1},
		{[]int{1, 2, 3}, []int{1, 9}, 1}, {[]int{1, 2, 3}, []int{9}, 0}, {[]int{1, 2, 3}, []int{1, 9, 3, 4}, 1}, {[]int{1, 2, 3}, []int{2, 3}, 0},
		{[]int{math.MaxInt, math.MinInt}, []int{math.MaxInt, math.MinInt}, -1}, {[]int{math.MaxInt, math.MinInt}, []int{math.MaxInt, 0}, 1},
		{[]int{math.MaxInt}, []int{-1}, 0}, {[]int{1 << 32}, []int{0}, 0}, {[]int{4, 1000000006}, []int{4, 6}, 1}, {[]int{200000}, []int{100000}, 0}, {[]int{100000}, []int{200000}, 0}, {[]int{-5, -6}, []int{-5, 6}, 1},
	} {
		parts(t, c.a, c.b, c.want)
	}
}

// TestPartedEach: X2, lists of each length, unlike at each place, or ending there.
func TestPartedEach(t *testing.T) {
	r := rand.New(rand.NewSource(18))
	for long := range 30 {
		a := make([]int, long)
		for i := range a {
			a[i] = r.Intn(3)
		}
		parts(t, a, slices.Clone(a), -1)
		parts(t, a, a, -1)
		for at := range a {
			b := slices.Clone(a)
			b[at]++
			for i := at + 1; i < long; i++ {
				b[i] = r.Intn(3)
			}
			parts(t, a, b, at)
			parts(t, a, a[:at], at)
			parts(t, a, b[:at+1], at)
		}
	}
	long := make([]int, 1<<20)
	parts(t, long, long, -1)
	parts(t, long, long[1:], 1<<20-1)
}

// TestPartedStays: P2, P4, what lies behind the lists' length is neither read nor written, nor what they have.
func TestPartedStays(t *testing.T) {
	a, b := []int{1, 2, 3, 4, 5}, []int{1, 2, 3, 9, 9}
	parts(t, a[:3], b[:3], -1)
	parts(t, a[:2], b[:3], 2)
	parts(t, a[:0], b[:0], -1)
	if !slices.Equal(a, []int{1, 2, 3, 4, 5}) || !slices.Equal(b, []int{1, 2, 3, 9, 9}) {
		t.Errorf("they became %v, %v", a, b)
	}
}
