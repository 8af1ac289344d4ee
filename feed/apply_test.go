package feed_test

import (
	"bytes"
	"math"
	"math/rand"
	"slices"
	"testing"

	"marchland/api"
	"marchland/feed"
	"marchland/plain"
)

// one is a list of one change.
func one(at, old, now int) []api.Change { return []api.Change{{At: at, Old: old, New: now}} }

// TestApply: E1, of the old text the new one comes by what Diff tells, and the other way round.
func TestApply(t *testing.T) {
	for _, s := range samples() {
		if got, err := feed.Apply(s.a, s.want); !bytes.Equal(got, s.b) || err != nil {
			t.Errorf("%s: got %v, %v; want %v", s.name, got, err, s.b)
		}
		if got, err := feed.Apply(s.b, back(s.want)); !bytes.Equal(got, s.a) || err != nil {
			t.Errorf("%s, back: got %v, %v; want %v", s.name, got, err, s.a)
		}
	}
}

// TestApplyNone: E1, of no changes the text comes as it was, of all lengths that may be.
func TestApplyNone(t *testing.T) {
	for _, long := range []int{0, 1, 2, 255, 256, 5999, 6000} {
		for _, l := range [][]api.Change{nil, {}} {
			if got, err := feed.Apply(filled(long, 9), l); !bytes.Equal(got, filled(long, 9)) || err != nil {
				t.Errorf("%d bytes: got %v, %v", long, got, err)
			}
		}
	}
}

// TestApplyAll: E1, as many changes as there may be.
func TestApplyAll(t *testing.T) {
	var l []api.Change
	for at := range 6000 {
		l = append(l, api.Change{At: at, Old: 4, New: 5})
	}
	if got, err := feed.Apply(filled(6000, 4), l); !bytes.Equal(got, filled(6000, 5)) || err != nil {
		t.Errorf("got %d bytes, %v", len(got), err)
	}
}

// refusal is a text and changes that do not go together, and what is told of it.
type refusal struct {
	name string
	a    []byte
	l    []api.Change
	told api.Errno
}

func hold(t *testing.T, all []refusal) {
	t.Helper()
	for _, c := range all {
		if got, err := feed.Apply(c.a, c.l); got != nil || plain.Told(err) != c.told {
			t.Errorf("%s: got %v, %v; want %v", c.name, got, err, c.told)
		}
	}
}

// TestApplyFull: E1, texts and lists of changes beyond what may be.
func TestApplyFull(t *testing.T) {
	long := slices.Repeat(one(0, 4, 5), 6001)
	for at := range long {
		long[at].At = at
	}
	hold(t, []refusal{
		{"one byte more than may be", filled(6001, 4), nil, api.ErrFull},
		{"far more bytes", filled(100000, 4), nil, api.ErrFull},
		{"one byte more, of which one is taken", filled(6001, 4), one(5999, 4, 5), api.ErrFull},
		{"one byte more, and a change that is wrong", filled(6001, 4), one(-1, 4, 5), api.ErrFull},
		{"one change more", filled(6000, 4), long, api.ErrFull},
		{"one change more, of which the first is wrong", filled(6000, 4), slices.Concat(one(-1, 4, 5), long[:6000]), api.ErrFull},
		{"one change more, of an empty text", nil, make([]api.Change, 6001), api.ErrFull},
		{"far more changes", nil, make([]api.Change, 100000), api.ErrFull},
		{"both", filled(6001, 4), long, api.ErrFull},
	})
	// As many as may be are looked at one by one.
	hold(t, []refusal{
		{"6000 changes, none of which is one", nil, make([]api.Change, 6000), api.ErrRange},
		{"6000 changes, the last at no place above", filled(6000, 4), slices.Concat(long[:5999], one(5998, 4, 5)), api.ErrOrder},
		{"6000 changes, the last of another byte", filled(6000, 4), slices.Concat(long[:5999], one(5999, 5, 4)), api.ErrState},
	})
}

// noRange are changes each of which has a number that is none.
func noRange() []api.Change {
	return []api.Change{
		{At: -1, Old: 4, New: 5}, {At: -6000, Old: 4, New: 5}, {At: 6000, Old: -1, New: 5}, {At: 6001, Old: -1, New: 5},
		{At: 1 << 32, Old: 4, New: 5}, {At: math.MaxInt, Old: -1, New: 5}, {At: math.MinInt, Old: 4, New: 5},
		{At: 0, Old: -2, New: 5}, {At: 0, Old: 256, New: 5}, {At: 0, Old: 260, New: 5}, {At: 0, Old: 4 + 1<<32, New: 5},
		{At: 0, Old: math.MaxInt, New: 5}, {At: 0, Old: math.MinInt, New: 5},
		{At: 0, Old: 4, New: -2}, {At: 0, Old: 4, New: 256}, {At: 0, Old: 4, New: 260}, {At: 0, Old: 4, New: 5 + 1<<32},
		{At: 0, Old: 4, New: math.MaxInt}, {At: 0, Old: 4, New: math.MinInt},
		{At: 0, Old: 4, New: 4}, {At: 0, Old: 0, New: 0}, {At: 0, Old: 255, New: 255}, {At: 9, Old: -1, New: -1}, {},
	}
}

// TestApplyRange: E1, numbers that are none, of the first change and of a later one.
func TestApplyRange(t *testing.T) {
	for _, c := range noRange() {
		for _, a := range [][]byte{nil, {4}, {0, 1}, {255}, filled(6000, 4)} {
			hold(t, []refusal{{"the first", a, []api.Change{c}, api.ErrRange}})
		}
		hold(t, []refusal{{"the second", []byte{7, 4}, []api.Change{{At: 0, Old: 7, New: 8}, c}, api.ErrRange}})
	}
	// The numbers at their bounds are some.
	for _, c := range []struct {
		a, want []byte
		l       []api.Change
	}{
		{[]byte{255}, []byte{0}, one(0, 255, 0)},
		{[]byte{0}, []byte{255}, one(0, 0, 255)},
		{[]byte{0}, nil, one(0, 0, -1)},
		{nil, []byte{255}, one(0, -1, 255)},
		{filled(6000, 4), append(filled(5999, 4), 0), one(5999, 4, 0)},
	} {
		if got, err := feed.Apply(c.a, c.l); !bytes.Equal(got, c.want) || err != nil {
			t.Errorf("%v: got %v, %v", c.l, got, err)
		}
	}
}

// TestApplyErrors: E1, each of the other errors by itself.
func TestApplyErrors(t *testing.T) {
	text := []byte{10, 11, 12, 13}
	hold(t, []refusal{
		{"a place twice", text, []api.Change{{At: 1, Old: 11, New: 5}, {At: 1, Old: 11, New: 6}}, api.ErrOrder},
		{"a place twice, as it is by then", text, []api.Change{{At: 1, Old: 11, New: 5}, {At: 1, Old: 5, New: 6}}, api.ErrOrder},
		{"the first place twice", text, []api.Change{{At: 0, Old: 10, New: 5}, {At: 0, Old: 10, New: 6}}, api.ErrOrder},
		{"a place ahead", text, []api.Change{{At: 2, Old: 12, New: 5}, {At: 1, Old: 11, New: 6}}, api.ErrOrder},
		{"the first place, ahead", text, []api.Change{{At: 1, Old: 11, New: 5}, {At: 0, Old: 10, New: 6}}, api.ErrOrder},
		{"above the first, and not above the second", text, []api.Change{{At: 0, Old: 10, New: 5}, {At: 3, Old: 13, New: 5}, {At: 2, Old: 12, New: 6}}, api.ErrOrder},
		{"another byte is there", text, one(0, 11, 5), api.ErrState},
		{"another byte is at the last place", text, one(3, 12, 5), api.ErrState},
		{"what is to be is there", text, one(2, 5, 12), api.ErrState},
		{"none is to be there, and one is", text, one(3, -1, 5), api.ErrState},
		{"one is to be there, and the text is at its end", text, one(4, 13, 5), api.ErrState},
		{"0 is to be there, and the text is at its end", text, one(4, 0, 5), api.ErrState},
		{"255 is to be there, and the text is at its end", text, one(4, 255, 5), api.ErrState},
		{"a byte is taken behind the end", text, one(4, 0, -1), api.ErrState},
		{"far behind the end", text, one(5999, 0, 5), api.ErrState},
		{"of nothing", nil, one(0, 0, 5), api.ErrState},
		{"the second one's", text, []api.Change{{At: 0, Old: 10, New: 5}, {At: 1, Old: 10, New: 5}}, api.ErrState},
		{"a byte one place behind the end", text, one(5, -1, 5), api.ErrShape},
		{"a byte at the last place that may be", text, one(5999, -1, 5), api.ErrShape},
		{"a byte at the second place of nothing", nil, one(1, -1, 5), api.ErrShape},
		{"bytes behind the end, with a gap", text, slices.Concat(put(4, 1), put(6, 1)), api.ErrShape},
		{"the first byte is taken", text, take(0, 10), api.ErrShape},
		{"a middle byte is taken", text, take(2, 12), api.ErrShape},
		{"all bytes but the last are taken", text, take(0, 10, 11, 12), api.ErrShape},
		{"the last byte is taken, and one comes behind", text, slices.Concat(take(3, 13), put(4, 1)), api.ErrShape},
		{"all bytes are taken, and one comes behind", text, slices.Concat(take(0, 10, 11, 12, 13), put(4, 0)), api.ErrShape},
		{"the first byte of all that may be is taken", filled(6000, 4), take(0, 4), api.ErrShape},
		{"the last byte but one of all that may be is taken", filled(6000, 4), take(5998, 4), api.ErrShape},
	})
}

// TestApplyWhichFirst: E1 and P3: of one change its numbers ahead of its order, and that ahead of what is there; of two changes what is wrong with the first; what comes is looked at last.
func TestApplyWhichFirst(t *testing.T) {
	text := []byte{10, 11, 12, 13}
	good := api.Change{At: 2, Old: 12, New: 5}
	state, shape := api.Change{At: 1, Old: 12, New: 5}, api.Change{At: 1, Old: 11, New: -1}
	hold(t, []refusal{
		{"range ahead of order", text, []api.Change{good, {At: 1, Old: 300, New: 5}}, api.ErrRange},
		{"both are one, ahead of order", text, []api.Change{good, {At: 1, Old: 11, New: 11}}, api.ErrRange},
		{"range ahead of state", text, one(1, 300, 5), api.ErrRange},
		{"both are one, ahead of state", text, one(1, 12, 12), api.ErrRange},
		{"range ahead of shape", text, one(1, 11, -2), api.ErrRange},
		{"order ahead of state", text, []api.Change{good, {At: 1, Old: 10, New: 5}}, api.ErrOrder},
		{"order ahead of shape", text, []api.Change{good, shape}, api.ErrOrder},
		{"state ahead of shape", text, one(7, 4, 5), api.ErrState},
		{"state, then range", text, []api.Change{state, {At: 2, Old: 12, New: 300}}, api.ErrState},
		{"state, then order", text, []api.Change{state, {At: 1, Old: 11, New: 5}}, api.ErrState},
		{"state, then shape", text, []api.Change{state, {At: 2, Old: 12, New: -1}}, api.ErrState},
		{"order, then range", text, []api.Change{good, good, {At: 3, Old: 13, New: 13}}, api.ErrOrder},
		{"order, then state", text, []api.Change{good, good, {At: 3, Old: 12, New: 13}}, api.ErrOrder},
		{"range, then state", text, []api.Change{{At: -1, Old: 1, New: 2}, state}, api.ErrRange},
		{"range, then order", text, []api.Change{{At: -1, Old: 1, New: 2}, good, good}, api.ErrRange},
		{"shape, then range", text, []api.Change{shape, {At: 2, Old: 12, New: 300}}, api.ErrRange},
		{"shape, then order", text, []api.Change{shape, shape}, api.ErrOrder},
		{"shape, then state", text, []api.Change{shape, {At: 2, Old: 11, New: 5}}, api.ErrState},
	})
}

// wantApply is E1's Apply of right numbers, by a map of the places that have a byte.
func wantApply(a []byte, l []api.Change) ([]byte, api.Errno) {
	places := map[int]int{}
	for at, c := range a {
		places[at] = int(c) + 1
	}
	last := -1
	for _, c := range l {
		switch {
		case c.Old == c.New:
			return nil, api.ErrRange
		case c.At <= last:
			return nil, api.ErrOrder
		case places[c.At] != c.Old+1:
			return nil, api.ErrState
		}
		if last = c.At; c.New < 0 {
			delete(places, c.At)
		} else {
			places[c.At] = c.New + 1
		}
	}
	b := make([]byte, len(places))
	for at, c := range places {
		if at >= len(b) {
			return nil, api.ErrShape
		}
		b[at] = byte(c - 1)
	}
	return b, api.OK
}

// TestApplyOfDrawn: E1, short texts and changes that are drawn.
func TestApplyOfDrawn(t *testing.T) {
	r := rand.New(rand.NewSource(142))
	seen := map[api.Errno]int{}
	for range 200000 {
		a := drawnText(r, 4)
		l := make([]api.Change, r.Intn(4))
		for i := range l {
			at := min(i+r.Intn(3), 5)
			l[i] = api.Change{At: at, Old: []int{-1, 0, 1, 255}[r.Intn(4)], New: []int{-1, 0, 1, 255}[r.Intn(4)]}
			if at < len(a) && r.Intn(3) > 0 {
				l[i].Old = int(a[at])
			}
		}
		want, told := wantApply(a, l)
		got, err := feed.Apply(a, l)
		if !bytes.Equal(got, want) || plain.Told(err) != told {
			t.Fatalf("%v, %v: got %v, %v; want %v, %v", a, l, got, err, want, told)
		}
		seen[told]++
	}
	for _, e := range []api.Errno{api.OK, api.ErrRange, api.ErrOrder, api.ErrState, api.ErrShape} {
		if seen[e] < 5000 {
			t.Errorf("%v: only %d times", e, seen[e])
		}
	}
}
