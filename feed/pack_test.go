package feed_test

import (
	"bytes"
	"encoding/binary"
	"math"
	"math/rand"
	"slices"
	"testing"

	"marchland/api"
	"marchland/feed"
	"marchland/plain"
)

// bundle is changes, and their bytes by hand.
type bundle struct {
	name string
	l    []api.Change
	b    []byte
}

func bundles() []bundle {
	return []bundle{
		{"none", nil, []byte{0}},
		{"one", one(0, 4, 5), []byte{2, 0, 10, 12}},
		{"one at a later place", one(3, 4, 5), []byte{2, 6, 10, 12}},
		{"one byte more", one(3, -1, 5), []byte{2, 6, 0, 12}},
		{"one byte less", one(3, 4, -1), []byte{2, 6, 10, 0}},
		{"0 where there was none", one(0, -1, 0), []byte{2, 0, 0, 2}},
		{"none where there was 0", one(0, 0, -1), []byte{2, 0, 2, 0}},
		{"255 where there was 0", one(0, 0, 255), []byte{2, 0, 2, 128, 4}},
		{"0 where there was 255", one(0, 255, 0), []byte{2, 0, 128, 4, 2}},
		{"255 where there was none", one(0, -1, 255), []byte{2, 0, 0, 128, 4}},
		{"none where there was 255", one(0, 255, -1), []byte{2, 0, 128, 4, 0}},
		{"a byte of one, of two", one(63, 62, 63), []byte{2, 126, 126, 128, 1}},
		{"a place of two bytes", one(64, 62, 63), []byte{2, 128, 1, 126, 128, 1}},
		{"the greatest place", one(5999, -1, 7), []byte{2, 222, 93, 0, 16}},
		{"two, side by side", []api.Change{{At: 4, Old: 1, New: 2}, {At: 5, Old: 3, New: 4}}, []byte{4, 8, 4, 6, 2, 8, 10}},
		{"the first and the greatest place", []api.Change{{At: 0, Old: 1, New: 2}, {At: 5999, Old: 3, New: 4}}, []byte{4, 0, 4, 6, 222, 93, 8, 10}},
		{"three, apart", []api.Change{{At: 0, Old: -1, New: 255}, {At: 64, Old: 255, New: -1}, {At: 164, Old: 0, New: 100}}, []byte{6, 0, 0, 128, 4, 128, 1, 128, 4, 0, 200, 1, 2, 202, 1}},
	}
}

// TestPack: E2, changes and their bytes, both ways, whatever stands behind.
func TestPack(t *testing.T) {
	for _, c := range bundles() {
		if got, err := feed.Pack(c.l); !bytes.Equal(got, c.b) || err != nil {
			t.Errorf("%s: got %v, %v; want %v", c.name, got, err, c.b)
		}
		for _, behind := range [][]byte{nil, {0}, {2}, {128}, {255, 255}, c.b, filled(7000, 4)} {
			got, long, err := feed.Unpack(slices.Concat(c.b, behind))
			if !slices.Equal(got, c.l) || long != len(c.b) || err != nil {
				t.Errorf("%s, with %d bytes behind: got %v, %d, %v; want %v", c.name, len(behind), got, long, err, c.l)
			}
		}
		for i := range c.b {
			none(t, c.b[:i], c.name+", not whole")
		}
	}
	if got, err := feed.Pack([]api.Change{}); !bytes.Equal(got, []byte{0}) || err != nil {
		t.Errorf("of an empty list: got %v, %v", got, err)
	}
}

// none asks for nothing of bytes but ErrFile.
func none(t *testing.T, b []byte, name string) {
	t.Helper()
	if got, long, err := feed.Unpack(b); got != nil || long != 0 || plain.Told(err) != api.ErrFile {
		t.Errorf("%s: %v: got %v, %d, %v", name, b, got, long, err)
	}
}

// all is as many changes as there may be, one a place.
func all() []api.Change {
	l := slices.Repeat(one(0, 4, 5), 6000)
	for at := range l {
		l[at].At = at
	}
	return l
}

// TestPackAll: E2, as many changes as there may be, and one less and more.
func TestPackAll(t *testing.T) {
	b := slices.Concat([]byte{224, 93, 0, 10, 12}, bytes.Repeat([]byte{2, 10, 12}, 5999))
	if got, err := feed.Pack(all()); !bytes.Equal(got, b) || err != nil {
		t.Errorf("got %d bytes, %v", len(got), err)
	}
	if got, long, err := feed.Unpack(b); !slices.Equal(got, all()) || long != len(b) || err != nil {
		t.Errorf("got %d changes of %d bytes, %v", len(got), long, err)
	}
	none(t, b[:len(b)-1], "all, not whole")
	b[0] = 222
	if got, long, err := feed.Unpack(b); !slices.Equal(got, all()[:5999]) || long != len(b)-3 || err != nil {
		t.Errorf("one less: got %d changes of %d bytes, %v", len(got), long, err)
	}
	b[0] = 226
	none(t, slices.Concat(b, []byte{2, 10, 12}), "one more")
}

// TestPackErrors: E2, what Apply tells of changes, but for what hangs on a text.
func TestPackErrors(t *testing.T) {
	good := api.Change{At: 2, Old: 12, New: 5}
	cases := []refusal{
		{"one change more than may be", nil, append(all(), api.Change{At: 5999, Old: 4, New: 5}), api.ErrFull},
		{"one more, of which none is one", nil, make([]api.Change, 6001), api.ErrFull},
		{"far more", nil, make([]api.Change, 100000), api.ErrFull},
		{"6000 of which none is one", nil, make([]api.Change, 6000), api.ErrRange},
		{"a place twice", nil, []api.Change{good, {At: 2, Old: 5, New: 6}}, api.ErrOrder},
		{"the first place twice", nil, slices.Repeat(one(0, 1, 2), 2), api.ErrOrder},
		{"a place ahead", nil, []api.Change{good, {At: 1, Old: 5, New: 6}}, api.ErrOrder},
		{"the last of many", nil, append(all()[:5999], good), api.ErrOrder},
		{"range ahead of order", nil, []api.Change{good, {At: 1, Old: 6, New: 6}}, api.ErrRange},
		{"range, then order", nil, []api.Change{{At: 6000, Old: 5, New: 6}, good, good}, api.ErrRange},
		{"order, then range", nil, []api.Change{good, good, {At: 6000, Old: 5, New: 6}}, api.ErrOrder},
	}
	for _, c := range noRange() {
		cases = append(cases,
			refusal{"a number that is none", nil, []api.Change{c}, api.ErrRange},
			refusal{"a number that is none, behind a good one", nil, []api.Change{good, c}, api.ErrRange},
			refusal{"a number that is none, ahead of a good one", nil, []api.Change{c, good}, api.ErrRange})
	}
	for _, c := range cases {
		if got, err := feed.Pack(c.l); got != nil || plain.Told(err) != c.told {
			t.Errorf("%s: got %v, %v; want %v", c.name, got, err, c.told)
		}
	}
}

// TestPackKnowsNoText: E2, what would not go with any text is packed as well: ErrState and ErrShape are none of Pack's.
func TestPackKnowsNoText(t *testing.T) {
	for _, l := range [][]api.Change{
		one(5999, -1, 3),
		one(0, 3, -1),
		{{At: 3, Old: -1, New: 4}, {At: 4, Old: 7, New: 8}},
		{{At: 3, Old: 5, New: -1}, {At: 4, Old: 7, New: 8}},
		{{At: 3, Old: -1, New: 4}, {At: 5, Old: -1, New: 8}},
	} {
		b, err := feed.Pack(l)
		if err != nil {
			t.Errorf("%v: got %v", l, err)
		}
		if got, long, err := feed.Unpack(b); !slices.Equal(got, l) || long != len(b) || err != nil {
			t.Errorf("%v: got %v, %d, %v", l, got, long, err)
		}
	}
}

// written is numbers as the library writes them.
func written(l ...int) []byte {
	var b []byte
	for _, n := range l {
		b = binary.AppendVarint(b, int64(n))
	}
	return b
}

// TestUnpackNone: E2, bytes that Pack never writes.
func TestUnpackNone(t *testing.T) {
	far := []int{math.MaxInt, math.MinInt, math.MaxInt - 1, math.MinInt + 1, 1 << 32, -1 << 32, 1 << 31, 1<<63 - 6000, -1}
	none(t, nil, "nothing")
	none(t, []byte{}, "an empty list")
	for _, many := range slices.Concat(far, []int{6001, 6002, -2, -6000}) {
		none(t, written(many), "so many")
		none(t, slices.Concat(written(many), filled(30000, 4)), "so many, with bytes behind")
		none(t, slices.Concat(written(many, 0, 5, 6), bytes.Repeat(written(1, 5, 6), 7000)), "so many, with changes behind")
	}
	for many := 1; many < 4; many++ {
		b := slices.Concat(written(many, 0, 5, 6), bytes.Repeat(written(1, 5, 6), many-1))
		b[0] += 2
		none(t, b, "one of which is not there")
	}
	for _, n := range slices.Concat(far, []int{6000, 6001, -2}) {
		none(t, written(1, n, 5, 6), "a first place")
		none(t, written(2, 7, 5, 6, n, 5, 6), "a second place")
		none(t, written(3, 7, 5, 6, n, 5, 6, -n, 5, 6), "a second place, and back")
	}
	for _, n := range slices.Concat(far, []int{257, 258, 512, -2}) {
		none(t, written(1, 0, n, 6), "an Old")
		none(t, written(1, 0, 5, n), "a New")
		none(t, written(2, 0, 5, 6, 1, n, 6), "a second Old")
		none(t, written(2, 0, 5, 6, 1, 5, n), "a second New")
	}
	for n := range 257 {
		none(t, written(1, 0, n, n), "Old and New that are one")
	}
	none(t, written(2, 7, 5, 6, 0, 5, 6), "a place twice")
	none(t, written(2, 0, 5, 6, 0, 5, 6), "the first place twice")
	none(t, written(2, 7, 5, 6, -7, 5, 6), "back to the first place")
	none(t, written(2, 1, 5, 6, 5999, 5, 6), "one behind the greatest place")
}

// TestUnpackLonger: E2, each number written longer than it needs, or as none that an int has.
func TestUnpackLonger(t *testing.T) {
	numbers := []int{2, 3, 5, 200, 70, 0, 256}
	full := filled(9, 255)
	for i, n := range numbers {
		with := func(piece []byte) []byte {
			return slices.Concat(written(numbers[:i]...), piece, written(numbers[i+1:]...), make([]byte, 50))
		}
		longer := written(n)
		if _, _, err := feed.Unpack(with(longer)); err != nil {
			t.Errorf("number %d as it is: got %v", i, err)
		}
		longer[len(longer)-1] += 128
		for _, behind := range [][]byte{{0}, {128, 0}, {128, 128, 128, 0}, {128, 128, 128, 128, 128, 128, 128, 128, 0}, filled(20, 128)} {
			none(t, with(slices.Concat(longer, behind)), "needless bytes")
		}
		for _, last := range [][]byte{{0}, {2}, {127}, {128}, {129, 1}, {255, 255}} {
			none(t, with(slices.Concat(full, last)), "a number that is too great")
		}
	}
}

// wantUnpack is E2's Unpack, by the library's numbers: what comes of it must be written just so.
func wantUnpack(b []byte) (l []api.Change, long int, is bool) {
	rest, is := b, true
	next := func() int {
		n, size := binary.Varint(rest)
		if is = is && size > 0; !is {
			return 0
		}
		rest = rest[size:]
		return int(n)
	}
	numbers := []int{next()}
	if numbers[0] < 0 || numbers[0] > 6000 {
		return nil, 0, false
	}
	at := 0
	for range numbers[0] {
		step, old, now := next(), next(), next()
		is = is && step >= 0 && step < 6000 && (step > 0 || at == 0 && l == nil) && old >= 0 && old < 257 && now >= 0 && now < 257 && old != now
		if at += step; !is || at >= 6000 {
			return nil, 0, false
		}
		numbers = append(numbers, step, old, now)
		l = append(l, api.Change{At: at, Old: old - 1, New: now - 1})
	}
	long = len(b) - len(rest)
	if !is || !bytes.Equal(written(numbers...), b[:long]) {
		return nil, 0, false
	}
	return l, long, true
}

// unpacked holds what Unpack makes of bytes against what it should, and what Pack makes of that against the bytes.
func unpacked(t *testing.T, b []byte) bool {
	t.Helper()
	want, long, is := wantUnpack(b)
	got, n, err := feed.Unpack(b)
	if !slices.Equal(got, want) || n != long || is != (err == nil) || !is && plain.Told(err) != api.ErrFile {
		t.Fatalf("%v: got %v, %d, %v; want %v, %d", b, got, n, err, want, long)
	}
	if again, err := feed.Pack(got); is && (!bytes.Equal(again, b[:n]) || err != nil) {
		t.Fatalf("%v: packed again it is %v, %v", b, again, err)
	}
	return is
}

// TestUnpackEachByte: E2, bytes of changes of which one is any other.
func TestUnpackEachByte(t *testing.T) {
	for _, c := range bundles() {
		for i := range c.b {
			for x := range 256 {
				other := slices.Clone(c.b)
				other[i] = byte(x)
				unpacked(t, other)
				unpacked(t, append(other, 2, 4, 6, 2, 6, 4, 0))
			}
		}
	}
}

// TestUnpackDrawn: E2, drawn bytes, and drawn changes.
func TestUnpackDrawn(t *testing.T) {
	r := rand.New(rand.NewSource(143))
	right := map[int]int{}
	for range 200000 {
		b := make([]byte, r.Intn(24))
		for i := range b {
			b[i] = []byte{0, 2, 4, 6, 8, 10, byte(r.Intn(256)), 128, 129, 1}[r.Intn(5+r.Intn(6))]
		}
		if unpacked(t, b) {
			right[int(b[0])/2]++
		}
	}
	if right[0] < 1000 || right[1] < 1000 || right[2] < 1000 || right[3] < 200 {
		t.Errorf("so often how many changes were right: %v", right)
	}
	for range 2000 {
		l, _ := feed.Diff(drawnText(r, 200), drawnText(r, 200))
		b, err := feed.Pack(l)
		if err != nil || !unpacked(t, b) {
			t.Fatalf("%v: got %v, %v", l, b, err)
		}
		if got, _, _ := feed.Unpack(b); !slices.Equal(got, l) {
			t.Fatalf("%v: back comes %v", l, got)
		}
	}
}
