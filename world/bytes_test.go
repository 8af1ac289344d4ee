package world_test

import (
	"bytes"
	"encoding/binary"
	"math"
	"math/big"
	"math/rand"
	"slices"
	"testing"

	"marchland/api"
	"marchland/plain"
	"marchland/world"
)

// edges are numbers at each bound of a byte, and the least and the greatest of all.
func edges() []int {
	l := []int{0, 1, -1, 100, -100, api.MaxNumber, -api.MaxNumber, math.MaxInt, math.MinInt, math.MaxInt - 1, math.MinInt + 1}
	for i := 6; i < 64; i += 7 {
		l = append(l, 1<<i-1, 1<<i, 1<<i+1, -(1 << i), -(1<<i)-1, -(1<<i)+1)
	}
	return l
}

// wantBytes is S3's Encode, by the library's numbers.
func wantBytes(w api.World) []byte {
	var b []byte
	put := func(l ...int) {
		for _, n := range l {
			b = binary.AppendVarint(b, int64(n))
		}
	}
	put(w.Turn, w.Next, w.Field.Wide, w.Field.High)
	put(append([]int{len(w.Field.Ground)}, w.Field.Ground...)...)
	put(append([]int{len(w.Field.Ore)}, w.Field.Ore...)...)
	put(append([]int{len(w.Gold)}, w.Gold...)...)
	put(len(w.Units))
	for _, u := range w.Units {
		put(u.Id, u.Player, u.Kind, u.At)
		put(u.Life, u.Load, u.Task, u.Goal)
	}
	put(len(w.Queue))
	for _, j := range w.Queue {
		put(j.Player, j.Unit, j.Kind, j.Left)
	}
	return b
}

// told holds what Encode and Decode make of a world against what they should.
func told(t *testing.T, w api.World) {
	b := world.Encode(w)
	if want := wantBytes(w); !bytes.Equal(b, want) {
		t.Fatalf("%v: got %v, want %v", w, b, want)
	}
	for _, behind := range [][]byte{nil, {0}, {2, 2}, {255}, {128, 0}, b} {
		got, n, err := world.Decode(slices.Concat(b, behind))
		if !alike(got, w) || n != len(b) || err != nil {
			t.Fatalf("%v, with %v behind: got %v, %d, %v", w, behind, got, n, err)
		}
	}
}

// TestEncodeWorked: S3, bytes worked out by hand.
func TestEncodeWorked(t *testing.T) {
	for _, c := range []struct {
		w api.World
		b []byte
	}{
		{api.World{}, make([]byte, 9)},
		{api.World{Turn: 1, Next: -1, Field: api.Field{Wide: 63, High: 64}}, []byte{2, 1, 126, 128, 1, 0, 0, 0, 0, 0}},
		{
			api.World{Turn: 5, Next: 3, Field: api.Field{Wide: 2, High: 1, Ground: []int{0, 3}, Ore: []int{100, 0}}, Gold: []int{-64, -65},
				Units: []api.Unit{{Id: 1, Player: 2, Kind: 3, At: 4, Life: 5, Load: 6, Task: 7, Goal: 8}},
				Queue: []api.Job{{Player: 9, Unit: 10, Kind: 11, Left: 12}}},
			[]byte{10, 6, 4, 2, 4, 0, 6, 4, 200, 1, 0, 4, 127, 129, 1, 2, 2, 4, 6, 8, 10, 12, 14, 16, 2, 18, 20, 22, 24},
		},
	} {
		if b := world.Encode(c.w); !bytes.Equal(b, c.b) {
			t.Errorf("%v: got %v, want %v", c.w, b, c.b)
		}
		told(t, c.w)
	}
}

// TestEncodeNumbers: S3, each number of a world at each edge.
func TestEncodeNumbers(t *testing.T) {
	count := len(numbersOf(ptr(few())))
	for i := range count {
		for _, n := range edges() {
			w := few()
			*numbersOf(&w)[i] = n
			told(t, w)
		}
	}
}

func ptr(w api.World) *api.World { return &w }

// sized is a world with lists of so many things.
func sized(grounds, ores, golds, units, jobs int) api.World {
	w := api.World{Field: api.Field{Ground: make([]int, grounds), Ore: make([]int, ores)}, Gold: make([]int, golds), Units: make([]api.Unit, units), Queue: make([]api.Job, jobs)}
	for i, n := range numbersOf(&w) {
		*n = 37*i%4000 - 2000
	}
	return w
}

// TestDecodeLists: S3, lists with MaxItems, and one more; Encode writes these too.
func TestDecodeLists(t *testing.T) {
	for _, n := range []int{0, 1, 63, 64, 199, 200, 201, 202, 300, 5000} {
		for i := range 5 {
			l := [5]int{2, 1, 3, 2, 1}
			l[i] = n
			w := sized(l[0], l[1], l[2], l[3], l[4])
			if n <= 200 {
				told(t, w)
				continue
			}
			b := world.Encode(w)
			if !bytes.Equal(b, wantBytes(w)) {
				t.Errorf("list %d of %d: not written", i, n)
			}
			if got, long, err := world.Decode(b); !alike(got, api.World{}) || long != 0 || plain.Told(err) != api.ErrFile {
				t.Errorf("list %d of %d: got %v, %d, %v", i, n, got, long, err)
			}
		}
	}
	told(t, sized(200, 200, 200, 200, 200))
}

// none asks for ErrFile, and nothing beside it.
func none(t *testing.T, b []byte, why string) {
	if got, n, err := world.Decode(b); !alike(got, api.World{}) || n != 0 || plain.Told(err) != api.ErrFile {
		t.Fatalf("%s: %v: got %v, %d, %v", why, b, got, n, err)
	}
}

// TestDecodeShort: S3, each beginning that is shorter; the rest stands behind its length.
func TestDecodeShort(t *testing.T) {
	for _, w := range []api.World{{}, few(), crowd(40), sized(200, 200, 200, 200, 200)} {
		b := world.Encode(w)
		for i := range b {
			none(t, b[:i], "too short")
		}
	}
	none(t, nil, "nothing")
}

// pieces are the bytes of each number that a world is written by.
func pieces(b []byte) [][]byte {
	var l [][]byte
	for len(b) > 0 {
		_, n := binary.Varint(b)
		l, b = append(l, b[:n]), b[n:]
	}
	return l
}

// TestDecodeOtherNumbers: S3, at each place a number with a needless last byte, or one that is too great.
func TestDecodeOtherNumbers(t *testing.T) {
	l := pieces(world.Encode(few()))
	with := func(i int, piece []byte) []byte {
		l := slices.Clone(l)
		l[i] = piece
		return slices.Concat(l...)
	}
	for i, piece := range l {
		longer := slices.Clone(piece)
		longer[len(longer)-1] += 128
		none(t, with(i, append(longer, 0)), "a needless byte")
		none(t, with(i, append(longer, 128, 0)), "two needless bytes")
		none(t, with(i, append(longer, 128, 128, 128, 128, 128, 128, 128, 128, 0)), "ten bytes, the last needless")
		full := bytes.Repeat([]byte{255}, 9)
		for _, last := range [][]byte{{0}, {2}, {3}, {127}, {128}, {129}, {129, 0}, {129, 1}, {255}, {255, 1}, {255, 255, 255}} {
			none(t, with(i, slices.Concat(full, last)), "too great")
			none(t, with(i, slices.Concat(bytes.Repeat([]byte{128}, 9), last)), "too great")
		}
	}
}

// TestDecodeCounts: S3, how many a list has below 0, and far beyond what may be.
func TestDecodeCounts(t *testing.T) {
	l := pieces(world.Encode(api.World{}))
	for i := 4; i < 9; i++ {
		for _, n := range []int{-1, -2, -200, 201, 1 << 31, 1 << 32, 1<<32 + 1, math.MaxInt, math.MinInt} {
			l := slices.Clone(l)
			l[i] = binary.AppendVarint(nil, int64(n))
			none(t, slices.Concat(slices.Concat(l...), make([]byte, 5000)), "so many")
		}
	}
}

// wantWorld is S3's Decode, by the library's numbers: what comes of it must be written just so.
func wantWorld(b []byte) (w api.World, long int, is bool) {
	rest, is := b, true
	next := func() int {
		n, far := binary.Varint(rest)
		if is = is && far > 0; !is {
			return 0
		}
		rest = rest[far:]
		return int(n)
	}
	many := func() int {
		n := next()
		if is = is && n >= 0 && n <= 200; !is {
			return 0
		}
		return n
	}
	w.Turn, w.Next = next(), next()
	w.Field.Wide, w.Field.High = next(), next()
	for _, l := range []*[]int{&w.Field.Ground, &w.Field.Ore, &w.Gold} {
		*l = make([]int, many())
		for i := range *l {
			(*l)[i] = next()
		}
	}
	w.Units = make([]api.Unit, many())
	for i := range w.Units {
		u := &w.Units[i]
		for _, n := range []*int{&u.Id, &u.Player, &u.Kind, &u.At, &u.Life, &u.Load, &u.Task, &u.Goal} {
			*n = next()
		}
	}
	w.Queue = make([]api.Job, many())
	for i := range w.Queue {
		j := &w.Queue[i]
		for _, n := range []*int{&j.Player, &j.Unit, &j.Kind, &j.Left} {
			*n = next()
		}
	}
	long = len(b) - len(rest)
	if !is || !bytes.Equal(wantBytes(w), b[:long]) {
		return api.World{}, 0, false
	}
	return w, long, true
}

// decoded holds what Decode makes of bytes against what it should.
func decoded(t *testing.T, b []byte) bool {
	before := slices.Clone(b)
	want, long, is := wantWorld(b)
	got, n, err := world.Decode(b)
	if !alike(got, want) || n != long || is != (err == nil) || !is && plain.Told(err) != api.ErrFile {
		t.Fatalf("%v: got %v, %d, %v; want %v, %d", b, got, n, err, want, long)
	}
	if !bytes.Equal(b, before) {
		t.Fatalf("%v became %v", before, b)
	}
	return is
}

// TestDecodeEachByte: S3, bytes of a world of which one is any other.
func TestDecodeEachByte(t *testing.T) {
	b := world.Encode(few())
	for i := range b {
		for c := range 256 {
			other := slices.Clone(b)
			other[i] = byte(c)
			decoded(t, other)
			decoded(t, append(other, make([]byte, 2000)...))
		}
	}
}

// TestDecodeDrawn: S3, drawn bytes.
func TestDecodeDrawn(t *testing.T) {
	r := rand.New(rand.NewSource(10))
	right := 0
	for range 60000 {
		b := make([]byte, r.Intn(120))
		for i := range b {
			b[i] = []byte{0, 0, 0, 1, 2, 2, 4, 6, 127, byte(r.Intn(256)), 128, 200}[r.Intn(6+r.Intn(7))]
		}
		if decoded(t, b) {
			right++
		}
	}
	if right < 1000 {
		t.Errorf("only %d are worlds", right)
	}
}

// wantSum is S3's Sum: one number of digits of base 257, behind a first digit 1.
func wantSum(b []byte) int {
	x := big.NewInt(1)
	for _, c := range b {
		x.Mul(x, big.NewInt(257)).Add(x, big.NewInt(int64(c)))
	}
	return int(x.Mod(x, big.NewInt(1000000007)).Int64())
}

// TestSum: S3, of several worlds, right and wrong ones.
func TestSum(t *testing.T) {
	for _, w := range []api.World{{}, few(), crowd(0), crowd(40), sized(200, 200, 200, 200, 200), sized(0, 300, 0, 0, 7)} {
		if got, want := world.Sum(w), wantSum(wantBytes(w)); got != want {
			t.Errorf("%v: got %d, want %d", w, got, want)
		}
	}
	if got := world.Sum(api.World{}); got != 447894237 {
		t.Errorf("of nothing: got %d", got)
	}
}

// TestSumOfUnlike: S3, worlds that differ in one number.
func TestSumOfUnlike(t *testing.T) {
	whole := world.Sum(few())
	for i := range numbersOf(ptr(few())) {
		for _, d := range []int{1, -1, 2, 64, -64, 1 << 20, math.MinInt} {
			w := few()
			*numbersOf(&w)[i] += d
			if got, want := world.Sum(w), wantSum(wantBytes(w)); got != want || got == whole {
				t.Errorf("number %d, %d more: got %d, want %d; of few %d", i, d, got, want, whole)
			}
		}
	}
}
