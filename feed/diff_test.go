package feed_test

import (
	"bytes"
	"math/rand"
	"slices"
	"testing"

	"marchland/api"
	"marchland/feed"
	"marchland/plain"
)

// filled is a text of so many bytes, all of them one.
func filled(many int, c byte) []byte { return bytes.Repeat([]byte{c}, many) }

// put is changes that put bytes behind an end, from a place on.
func put(at int, l ...byte) []api.Change {
	var all []api.Change
	for i, c := range l {
		all = append(all, api.Change{At: at + i, Old: -1, New: int(c)})
	}
	return all
}

// take is changes that take bytes away, from a place on.
func take(at int, l ...byte) []api.Change { return back(put(at, l...)) }

// back is changes the other way round.
func back(l []api.Change) []api.Change {
	l = slices.Clone(l)
	for i, c := range l {
		l[i].Old, l[i].New = c.New, c.Old
	}
	return l
}

// sample is two texts, and what makes the second of the first.
type sample struct {
	name string
	a, b []byte
	want []api.Change
}

func samples() []sample {
	return []sample{
		{"both are nothing", nil, nil, nil},
		{"both are empty", []byte{}, []byte{}, nil},
		{"nothing and empty", nil, []byte{}, nil},
		{"alike, of one", []byte{7}, []byte{7}, nil},
		{"alike, of several", []byte{1, 0, 255}, []byte{1, 0, 255}, nil},
		{"the first is empty", nil, []byte{9, 8}, []api.Change{{At: 0, Old: -1, New: 9}, {At: 1, Old: -1, New: 8}}},
		{"the second is empty", []byte{9, 8}, nil, []api.Change{{At: 0, Old: 9, New: -1}, {At: 1, Old: 8, New: -1}}},
		{"a byte 0 where there was none", nil, []byte{0}, []api.Change{{At: 0, Old: -1, New: 0}}},
		{"no byte where there was 0", []byte{0}, []byte{}, []api.Change{{At: 0, Old: 0, New: -1}}},
		{"a byte 255 where there was none", []byte{3}, []byte{3, 255}, []api.Change{{At: 1, Old: -1, New: 255}}},
		{"no byte where there was 255", []byte{3, 255}, []byte{3}, []api.Change{{At: 1, Old: 255, New: -1}}},
		{"the first is longer", []byte{1, 2, 3, 4}, []byte{1, 2}, []api.Change{{At: 2, Old: 3, New: -1}, {At: 3, Old: 4, New: -1}}},
		{"the second is longer", []byte{1, 2}, []byte{1, 2, 3, 4}, []api.Change{{At: 2, Old: -1, New: 3}, {At: 3, Old: -1, New: 4}}},
		{"longer, and unlike ahead", []byte{1, 2, 3}, []byte{1, 5}, []api.Change{{At: 1, Old: 2, New: 5}, {At: 2, Old: 3, New: -1}}},
		{"unlike at the first place", []byte{1, 2, 3}, []byte{200, 2, 3}, []api.Change{{At: 0, Old: 1, New: 200}}},
		{"unlike at a middle place", []byte{1, 2, 3}, []byte{1, 0, 3}, []api.Change{{At: 1, Old: 2, New: 0}}},
		{"unlike at the last place", []byte{1, 2, 3}, []byte{1, 2, 4}, []api.Change{{At: 2, Old: 3, New: 4}}},
		{"unlike at the first and the last", []byte{1, 2, 3}, []byte{3, 2, 1}, []api.Change{{At: 0, Old: 1, New: 3}, {At: 2, Old: 3, New: 1}}},
		{"unlike at all places", []byte{0, 128}, []byte{255, 127}, []api.Change{{At: 0, Old: 0, New: 255}, {At: 1, Old: 128, New: 127}}},
		{"one byte is left out", []byte{1, 2, 3}, []byte{2, 3}, []api.Change{{At: 0, Old: 1, New: 2}, {At: 1, Old: 2, New: 3}, {At: 2, Old: 3, New: -1}}},
		{"letters", []byte("march"), []byte("marsh!"), []api.Change{{At: 3, Old: 'c', New: 's'}, {At: 5, Old: -1, New: '!'}}},
		{"all that may be, alike", filled(6000, 4), filled(6000, 4), nil},
		{"all that may be, unlike", filled(6000, 4), slices.Concat(filled(5999, 4), []byte{5}), []api.Change{{At: 5999, Old: 4, New: 5}}},
		{"all that may be, and one less", filled(6000, 4), filled(5999, 4), take(5999, 4)},
		{"one less, and all that may be", filled(5999, 4), filled(6000, 4), put(5999, 4)},
		{"all that may be of nothing", nil, filled(6000, 4), put(0, filled(6000, 4)...)},
		{"nothing of all that may be", filled(6000, 4), nil, take(0, filled(6000, 4)...)},
	}
}

// TestDiff: E1, where two texts are unlike.
func TestDiff(t *testing.T) {
	for _, s := range samples() {
		if got, err := feed.Diff(s.a, s.b); !slices.Equal(got, s.want) || err != nil {
			t.Errorf("%s: got %v, %v; want %v", s.name, got, err, s.want)
		}
	}
}

// TestDiffFull: E1, a text of more than MaxBytes, on either side, whatever the other one is.
func TestDiffFull(t *testing.T) {
	for _, long := range []int{6001, 6002, 70000} {
		for _, other := range [][]byte{nil, {4}, filled(6000, 4), filled(long, 4), filled(long, 5)} {
			if got, err := feed.Diff(filled(long, 4), other); got != nil || plain.Told(err) != api.ErrFull {
				t.Errorf("%d and %d bytes: got %d changes, %v", long, len(other), len(got), err)
			}
			if got, err := feed.Diff(other, filled(long, 4)); got != nil || plain.Told(err) != api.ErrFull {
				t.Errorf("%d and %d bytes: got %d changes, %v", len(other), long, len(got), err)
			}
		}
	}
}

// drawnText is of few bytes that are unlike, so that two are often alike somewhere.
func drawnText(r *rand.Rand, most int) []byte {
	b := make([]byte, r.Intn(most+1))
	for i := range b {
		b[i] = []byte{0, 1, 255}[r.Intn(3)]
	}
	return b
}

// wantDiff is E1's Diff, from the longer end back.
func wantDiff(a, b []byte) []api.Change {
	var l []api.Change
	for len(a)+len(b) > 0 {
		c := api.Change{At: max(len(a), len(b)) - 1, Old: -1, New: -1}
		if len(a) == c.At+1 {
			c.Old, a = int(a[c.At]), a[:c.At]
		}
		if len(b) == c.At+1 {
			c.New, b = int(b[c.At]), b[:c.At]
		}
		if c.Old != c.New {
			l = append(l, c)
		}
	}
	slices.Reverse(l)
	return l
}

// TestDiffOfDrawn: E1, drawn texts; and of what Diff tells the new one comes of the old, and the old one of the new.
func TestDiffOfDrawn(t *testing.T) {
	r := rand.New(rand.NewSource(141))
	for i := range 20000 {
		most := 12
		if i%200 == 0 {
			most = api.MaxBytes
		}
		a, b := drawnText(r, most), drawnText(r, most)
		l, err := feed.Diff(a, b)
		if !slices.Equal(l, wantDiff(a, b)) || err != nil {
			t.Fatalf("%v, %v: got %v, %v", a, b, l, err)
		}
		if got, err := feed.Apply(a, l); !bytes.Equal(got, b) || err != nil {
			t.Fatalf("%v to %v: got %v, %v", a, b, got, err)
		}
		if got, err := feed.Apply(b, back(l)); !bytes.Equal(got, a) || err != nil {
			t.Fatalf("%v back to %v: got %v, %v", b, a, got, err)
		}
	}
}
