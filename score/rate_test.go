package score_test

import (
	"math"
	"math/rand"
	"testing"

	"marchland/api"
	"marchland/plain"
	"marchland/score"
)

// game of two: their ratings, what the first got, and their ratings then.
type game struct{ a, b, half, first, second int }

func (g game) hold(t *testing.T) {
	t.Helper()
	first, second, err := score.Rate(g.a, g.b, g.half)
	if first != g.first || second != g.second || err != nil {
		t.Errorf("%d, %d, half %d: got %d, %d, %v; want %d, %d", g.a, g.b, g.half, first, second, err, g.first, g.second)
	}
}

// TestRate: N1, of ratings that are alike, a little apart and far apart, all that the first may have got.
func TestRate(t *testing.T) {
	for _, g := range []game{
		{1500, 1500, 0, 1484, 1516}, {1500, 1500, 1, 1500, 1500}, {1500, 1500, 2, 1516, 1484},
		{1600, 1500, 0, 1583, 1517}, {1600, 1500, 1, 1599, 1501}, {1600, 1500, 2, 1614, 1486},
		{1500, 1600, 0, 1486, 1614}, {1500, 1600, 1, 1501, 1599}, {1500, 1600, 2, 1517, 1583},
		{3000, 1000, 0, 2970, 1030}, {3000, 1000, 1, 2986, 1014}, {3000, 1000, 2, 3001, 999},
		{1000, 3000, 0, 999, 3001}, {1000, 3000, 1, 1014, 2986}, {1000, 3000, 2, 1030, 2970},
		{2000, 1500, 0, 1976, 1524}, {2000, 1500, 1, 1992, 1508}, {2000, 1500, 2, 2008, 1492},
		{1500, 2000, 0, 1492, 2008}, {1500, 2000, 1, 1508, 1992}, {1500, 2000, 2, 1524, 1976},
	} {
		g.hold(t)
	}
}

// TestRateAtBounds: N1, E is from 50 to 950, where it meets them, inside of them, and where it would be beyond.
func TestRateAtBounds(t *testing.T) {
	for _, g := range []game{
		{2900, 2000, 0, 2870, 2030}, {2900, 2000, 1, 2886, 2014}, {2900, 2000, 2, 2901, 1999},
		{2000, 2900, 0, 1999, 2901}, {2000, 2900, 1, 2014, 2886}, {2000, 2900, 2, 2030, 2870},
		{2898, 2000, 0, 2868, 2030}, {2898, 2000, 2, 2899, 1999}, {2000, 2898, 0, 1999, 2899}, {2000, 2898, 2, 2030, 2868},
		{2902, 2000, 0, 2872, 2030}, {2902, 2000, 2, 2903, 1999}, {2000, 2902, 0, 1999, 2903}, {2000, 2902, 2, 2030, 2872},
		// With E 938 and 937 there is another gain, inside; with E 969 there would be, beyond.
		{2876, 2000, 0, 2846, 2030}, {2874, 2000, 0, 2845, 2029}, {2000, 2876, 2, 2030, 2846}, {2000, 2874, 2, 2029, 2845},
		{2876, 2000, 1, 2862, 2014}, {2874, 2000, 1, 2861, 2013}, {2000, 2876, 1, 2014, 2862}, {2000, 2874, 1, 2013, 2861},
		{2876, 2000, 2, 2877, 1999}, {2874, 2000, 2, 2876, 1998}, {2000, 2876, 0, 1999, 2877}, {2000, 2874, 0, 1998, 2876},
		{2938, 2000, 0, 2908, 2030}, {2938, 2000, 1, 2924, 2014}, {2938, 2000, 2, 2939, 1999},
		{2000, 2938, 0, 1999, 2939}, {2000, 2938, 1, 2014, 2924}, {2000, 2938, 2, 2030, 2908},
		{3999, 999, 0, 3969, 1029}, {3999, 999, 2, 4000, 998}, {999, 3999, 0, 998, 4000}, {999, 3999, 2, 1029, 3969},
	} {
		g.hold(t)
	}
}

// TestRateRounds: N1, half of an odd difference, and a gain with a part, are rounded to 0, above and below it.
func TestRateRounds(t *testing.T) {
	for _, g := range []game{
		// 187 and a half become 187, of which 5 come; of 188 there would be 6.
		{3195, 3570, 1, 3200, 3565}, {3570, 3195, 1, 3565, 3200}, {3194, 3570, 1, 3200, 3564}, {3571, 3195, 1, 3565, 3201},
		// 31 and a half become 31, of which nothing comes; of 32 there comes 1.
		{1563, 1500, 1, 1563, 1500}, {1500, 1563, 1, 1500, 1563}, {1564, 1500, 1, 1563, 1501}, {1500, 1564, 1, 1501, 1563},
		{1563, 1500, 0, 1547, 1516}, {1564, 1500, 0, 1547, 1517}, {1500, 1563, 2, 1516, 1547}, {1500, 1564, 2, 1517, 1547},
		{1501, 1500, 0, 1485, 1516}, {1500, 1501, 0, 1484, 1517}, {1501, 1500, 1, 1501, 1500}, {1500, 1501, 1, 1500, 1501},
		{1501, 1500, 2, 1517, 1484}, {1500, 1501, 2, 1516, 1485},
		// Gains of 1.6, 14.4 and 17.6, above 0 and below.
		{2100, 2000, 1, 2099, 2001}, {2000, 2100, 1, 2001, 2099}, {2100, 2000, 2, 2114, 1986}, {2000, 2100, 0, 1986, 2114},
		{2100, 2000, 0, 2083, 2017}, {2000, 2100, 2, 2017, 2083},
	} {
		g.hold(t)
	}
}

// TestRateAtEnds: N1, no rating goes below 0 or above 4000, and what one of them cannot get or give stays with the other one.
func TestRateAtEnds(t *testing.T) {
	for _, g := range []game{
		{4000, 4000, 0, 4000, 4000}, {4000, 4000, 1, 4000, 4000}, {4000, 4000, 2, 4000, 4000},
		{0, 0, 0, 0, 0}, {0, 0, 1, 0, 0}, {0, 0, 2, 0, 0},
		{4000, 0, 0, 3970, 30}, {4000, 0, 1, 3986, 14}, {4000, 0, 2, 4000, 0},
		{0, 4000, 0, 0, 4000}, {0, 4000, 1, 14, 3986}, {0, 4000, 2, 30, 3970},
		{3990, 3990, 2, 4000, 3980}, {3990, 3990, 0, 3980, 4000}, {10, 10, 2, 20, 0}, {10, 10, 0, 0, 20},
		{3984, 3984, 2, 4000, 3968}, {3984, 3984, 0, 3968, 4000}, {3985, 3985, 2, 4000, 3970}, {3985, 3985, 0, 3970, 4000},
		{16, 16, 2, 32, 0}, {16, 16, 0, 0, 32}, {15, 15, 2, 30, 0}, {15, 15, 0, 0, 30},
		{4000, 3900, 2, 4000, 3900}, {4000, 3900, 1, 3999, 3901}, {4000, 3900, 0, 3983, 3917},
		{3900, 4000, 0, 3900, 4000}, {3900, 4000, 1, 3901, 3999}, {3900, 4000, 2, 3917, 3983},
		{0, 100, 0, 0, 100}, {0, 100, 1, 1, 99}, {0, 100, 2, 17, 83}, {5, 105, 0, 0, 110},
		{100, 0, 2, 100, 0}, {100, 0, 1, 99, 1}, {100, 0, 0, 83, 17}, {105, 5, 2, 110, 0},
		{3999, 1, 2, 4000, 0}, {3999, 0, 2, 3999, 0}, {4000, 1, 2, 4000, 1},
		{1, 3999, 0, 0, 4000}, {0, 3999, 0, 0, 3999}, {1, 4000, 0, 1, 4000},
	} {
		g.hold(t)
	}
}

// TestRateOfWrong: N1, ratings and halves that are none.
func TestRateOfWrong(t *testing.T) {
	refused := func(a, b, half int) {
		t.Helper()
		if first, second, err := score.Rate(a, b, half); first != 0 || second != 0 || plain.Told(err) != api.ErrRange {
			t.Errorf("%d, %d, half %d: got %d, %d, %v", a, b, half, first, second, err)
		}
	}
	for _, x := range []int{-1, 4001, -4000, 5000, 1 << 32, 1<<32 + 1500, -1 << 62, math.MaxInt, math.MinInt} {
		for half := range 3 {
			for _, other := range []int{0, 1500, 4000, x, -1, 4001} {
				refused(x, other, half)
				refused(other, x, half)
			}
		}
	}
	for _, half := range []int{-1, 3, -2, 4, 1 << 32, 1<<32 + 1, math.MaxInt, math.MinInt} {
		for _, a := range []int{-1, 0, 1500, 4000, 4001} {
			refused(a, 1500, half)
			refused(1500, a, half)
		}
	}
}

// toZero divides, and leaves the part out, whatever the sign.
func toZero(x, by int) int {
	if x < 0 {
		return -int(math.Floor(float64(-x) / float64(by)))
	}
	return int(math.Floor(float64(x) / float64(by)))
}

// wantRate is N1, with what goes over handed on one by one, as long as one has it and the other one may get it.
func wantRate(a, b, half int) (int, int) {
	e := 500 + toZero(a-b, 2)
	if e < 50 {
		e = 50
	}
	if e > 950 {
		e = 950
	}
	gain := toZero((500*half-e)*32, 1000)
	for ; gain > 0 && b > 0 && a < 4000; gain-- {
		a, b = a+1, b-1
	}
	for ; gain < 0 && a > 0 && b < 4000; gain++ {
		a, b = a-1, b+1
	}
	return a, b
}

// TestRateOfDrawn: N1, ratings drawn, near each other and near both ends too; together they stay as many.
func TestRateOfDrawn(t *testing.T) {
	r := rand.New(rand.NewSource(15))
	near := func() int { return []int{r.Intn(40), 4000 - r.Intn(40), r.Intn(4001)}[r.Intn(3)] }
	for range 200000 {
		a, b, half := near(), near(), r.Intn(3)
		if r.Intn(3) == 0 {
			b = min(max(a+r.Intn(2001)-1000, 0), 4000)
		}
		first, second, err := score.Rate(a, b, half)
		wantFirst, wantSecond := wantRate(a, b, half)
		if first != wantFirst || second != wantSecond || err != nil || first+second != a+b {
			t.Fatalf("%d, %d, half %d: got %d, %d, %v; want %d, %d", a, b, half, first, second, err, wantFirst, wantSecond)
		}
	}
}

// TestRateOfBothSides: N1, who is asked first does not matter.
func TestRateOfBothSides(t *testing.T) {
	for a := 0; a <= 4000; a += 25 {
		for b := 0; b <= 4000; b += 37 {
			for half := range 3 {
				first, second, err := score.Rate(a, b, half)
				other, one, bad := score.Rate(b, a, 2-half)
				if first != one || second != other || err != nil || bad != nil {
					t.Fatalf("%d, %d, half %d: got %d, %d, %v, and from the other side %d, %d, %v", a, b, half, first, second, err, one, other, bad)
				}
			}
		}
	}
}
