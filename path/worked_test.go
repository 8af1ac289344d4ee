package path_test

import (
	"math/rand"
	"slices"
	"testing"

	"marchland/api"
	"marchland/path"
	"marchland/plain"
)

// onto is chapter 3's Step, worked out anew: by ground, for who goes and for who flies.
var onto = map[bool][4]int{false: {1, 0, 0, 2}, true: {1, 0, 1, 1}}

// around are the cells beside one, worked out anew: up, left, right, down.
func around(f api.Field, at int) (l []int) {
	if at >= f.Wide {
		l = append(l, at-f.Wide)
	}
	if at%f.Wide > 0 {
		l = append(l, at-1)
	}
	if at%f.Wide < f.Wide-1 {
		l = append(l, at+1)
	}
	if at+f.Wide < f.Wide*f.High {
		l = append(l, at+f.Wide)
	}
	return l
}

// apart tells how far it is from each cell to each other one, -1 where there is no way: it lets ways go over more and more cells.
func apart(f api.Field, flies bool) [][]int {
	n := len(f.Ground)
	d := make([][]int, n)
	for a := range n {
		d[a] = slices.Repeat([]int{-1}, n)
		for _, b := range around(f, a) {
			if step := onto[flies][f.Ground[b]]; step > 0 {
				d[a][b] = step
			}
		}
		d[a][a] = 0
	}
	for over := range n {
		for a := range n {
			for b := range n {
				if d[a][over] >= 0 && d[over][b] >= 0 && (d[a][b] < 0 || d[a][over]+d[over][b] < d[a][b]) {
					d[a][b] = d[a][over] + d[over][b]
				}
			}
		}
	}
	return d
}

// wantNext is the first cell beside from that is on a shortest way.
func wantNext(f api.Field, d [][]int, from, to int, flies bool) (int, api.Errno) {
	if from == to {
		return from, api.OK
	}
	for _, b := range around(f, from) {
		step := onto[flies][f.Ground[b]]
		if step > 0 && d[b][to] >= 0 && step+d[b][to] == d[from][to] {
			return b, api.OK
		}
	}
	return 0, api.ErrState
}

// holds tests all calls on a field: between all its cells, or between every so-many-th one and all others.
func holds(t *testing.T, f api.Field, every int, flies bool) {
	d := apart(f, flies)
	for a := 0; a < len(f.Ground); a += every {
		far, err := path.Far(f, a, flies)
		if err != nil || len(far) != len(f.Ground) {
			t.Fatalf("%v, flying %v: Far to %d: got %v, %v", f, flies, a, far, err)
		}
		for b := range f.Ground {
			if far[b] != d[b][a] {
				t.Fatalf("%v, flying %v: Far from %d to %d: got %d, want %d", f, flies, b, a, far[b], d[b][a])
			}
			nextHolds(t, f, d, a, b, flies)
		}
		if from, err := path.From(f, a, flies); !slices.Equal(from, d[a]) || err != nil {
			t.Fatalf("%v, flying %v: From %d: got %v, %v; want %v", f, flies, a, from, err, d[a])
		}
		for _, most := range []int{0, 1, 2, 3, 4, 7, 11, 20} {
			reachHolds(t, f, d, a, most, flies)
		}
	}
}

// nextHolds tests Next and Path between two cells.
func nextHolds(t *testing.T, f api.Field, d [][]int, from, to int, flies bool) {
	want, told := wantNext(f, d, from, to, flies)
	got, err := path.Next(f, from, to, flies)
	if got != want || plain.Told(err) != told {
		t.Fatalf("%v, flying %v: Next from %d to %d: got %d, %v; want %d, %v", f, flies, from, to, got, err, want, told)
	}
	way, err := path.Path(f, from, to, flies)
	if told != api.OK {
		if len(way) > 0 || plain.Told(err) != told {
			t.Fatalf("%v, flying %v: Path from %d to %d: got %v, %v", f, flies, from, to, way, err)
		}
		return
	}
	if err != nil || len(way) == 0 || way[0] != from || way[len(way)-1] != to {
		t.Fatalf("%v, flying %v: Path from %d to %d: got %v, %v", f, flies, from, to, way, err)
	}
	sum := 0
	for i, at := range way[1:] {
		want, _ := wantNext(f, d, way[i], to, flies)
		sum += onto[flies][f.Ground[at]]
		if at != want {
			t.Fatalf("%v, flying %v: Path from %d to %d: got %v; after %d comes %d", f, flies, from, to, way, way[i], want)
		}
	}
	if sum != d[from][to] {
		t.Fatalf("%v, flying %v: Path from %d to %d: %v comes to %d, not to %d", f, flies, from, to, way, sum, d[from][to])
	}
}

// reachHolds tests Reach from a cell.
func reachHolds(t *testing.T, f api.Field, d [][]int, from, most int, flies bool) {
	var want []int
	for at := range f.Ground {
		if d[from][at] >= 0 && d[from][at] <= most {
			want = append(want, at)
		}
	}
	got, err := path.Reach(f, from, most, flies)
	if !slices.Equal(got, want) || err != nil {
		t.Fatalf("%v, flying %v: Reach from %d, most %d: got %v, %v; want %v", f, flies, from, most, got, err, want)
	}
}

// grounds is a field without ore whose grounds are the digits of n, of base 4.
func grounds(wide, high, n int) api.Field {
	f := api.Field{Wide: wide, High: high, Ore: make([]int, wide*high)}
	for range wide * high {
		f.Ground = append(f.Ground, n%4)
		n /= 4
	}
	return f
}

// TestAllSmallFields: W1, all calls on all fields without ore of these few cells.
func TestAllSmallFields(t *testing.T) {
	for _, s := range [][2]int{{1, 1}, {2, 1}, {1, 2}, {4, 1}, {1, 4}, {2, 2}, {3, 2}, {2, 3}} {
		for n := range 1 << (2 * s[0] * s[1]) {
			f := grounds(s[0], s[1], n)
			holds(t, f, 1, false)
			holds(t, f, 1, true)
		}
	}
}

// TestGreaterFields: W1, all calls on fields that are drawn, always the same ones, up to the greatest sides.
func TestGreaterFields(t *testing.T) {
	r := rand.New(rand.NewSource(4))
	for _, s := range [][2]int{{3, 3}, {4, 4}, {5, 3}, {3, 5}, {12, 1}, {1, 12}, {7, 6}, {12, 5}, {12, 12}} {
		for _, mix := range []string{"\x00\x03", "\x00\x00\x03\x01", "\x00\x01\x02\x03", "\x00\x00\x00\x02\x03\x03"} {
			f := grounds(s[0], s[1], 0)
			for at := range f.Ground {
				f.Ground[at] = int(mix[r.Intn(len(mix))])
			}
			every := 1 + len(f.Ground)/20
			holds(t, f, every, false)
			holds(t, f, every, true)
		}
	}
}
