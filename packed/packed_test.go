package packed_test

import (
	"bytes"
	"encoding/binary"
	"math"
	"math/rand"
	"slices"
	"testing"

	"marchland/packed"
)

// worked are numbers at each bound of a byte, and their bytes by hand.
var worked = []struct {
	n int
	b []byte
}{
	{0, []byte{0}},
	{-1, []byte{1}},
	{1, []byte{2}},
	{-2, []byte{3}},
	{63, []byte{126}},
	{-64, []byte{127}},
	{64, []byte{128, 1}},
	{-65, []byte{129, 1}},
	{100, []byte{200, 1}},
	{127, []byte{254, 1}},
	{128, []byte{128, 2}},
	{8191, []byte{254, 127}},
	{-8192, []byte{255, 127}},
	{8192, []byte{128, 128, 1}},
	{-8193, []byte{129, 128, 1}},
	{1000000, []byte{128, 137, 122}},
	{1 << 62, []byte{128, 128, 128, 128, 128, 128, 128, 128, 128, 1}},
	{1<<62 - 1, []byte{254, 255, 255, 255, 255, 255, 255, 255, 127}},
	{-1 << 62, []byte{255, 255, 255, 255, 255, 255, 255, 255, 127}},
	{-1<<62 - 1, []byte{129, 128, 128, 128, 128, 128, 128, 128, 128, 1}},
	{math.MaxInt, []byte{254, 255, 255, 255, 255, 255, 255, 255, 255, 1}},
	{math.MinInt, []byte{255, 255, 255, 255, 255, 255, 255, 255, 255, 1}},
}

// TestWorked: S3's numbers, both ways, whatever stands behind.
func TestWorked(t *testing.T) {
	for _, c := range worked {
		if b := packed.Write([]int{c.n}); !bytes.Equal(b, c.b) {
			t.Errorf("%d: got %v, want %v", c.n, b, c.b)
		}
		for _, behind := range [][]byte{nil, {0}, {1}, {127}, {128}, {255, 255}} {
			if n, long := packed.Read(slices.Concat(c.b, behind)); n != c.n || long != len(c.b) {
				t.Errorf("%v and %v: got %d of %d bytes, want %d", c.b, behind, n, long, c.n)
			}
		}
		for i := range c.b {
			if n, long := packed.Read(c.b[:i]); n != 0 || long != 0 {
				t.Errorf("%v: got %d of %d bytes", c.b[:i], n, long)
			}
		}
	}
}

// TestReadNone: bytes that begin with no number.
func TestReadNone(t *testing.T) {
	full := bytes.Repeat([]byte{255}, 9)
	low := bytes.Repeat([]byte{128}, 9)
	for _, b := range [][]byte{
		nil, {}, {128}, {255}, {128, 0}, {129, 0}, {255, 0}, {128, 128, 0}, {255, 255, 0, 1}, {128, 129, 0},
		full, low,
		slices.Concat(full, []byte{0}), slices.Concat(low, []byte{0}),
		slices.Concat(full, []byte{2}), slices.Concat(low, []byte{2}), slices.Concat(low, []byte{3}),
		slices.Concat(full, []byte{127}), slices.Concat(low, []byte{64}),
		slices.Concat(full, []byte{128}), slices.Concat(full, []byte{129}), slices.Concat(full, []byte{255}),
		slices.Concat(low, []byte{128, 0}), slices.Concat(low, []byte{129, 0}), slices.Concat(low, []byte{128, 1}),
		slices.Concat(full, []byte{129, 1}), bytes.Repeat([]byte{255}, 1000), bytes.Repeat([]byte{128}, 1000),
	} {
		if n, long := packed.Read(b); n != 0 || long != 0 {
			t.Errorf("%v: got %d of %d bytes", b, n, long)
		}
	}
}

// numbers near all powers of 2, on both sides of 0, and drawn ones.
func numbers() []int {
	var l []int
	for i := range 64 {
		for d := -2; d <= 2; d++ {
			l = append(l, 1<<i+d, -(1<<i)+d)
		}
	}
	r := rand.New(rand.NewSource(7))
	for range 3000 {
		l = append(l, int(r.Uint64())>>r.Intn(64))
	}
	return l
}

// TestNumbers: S3's numbers, as the library writes and reads them.
func TestNumbers(t *testing.T) {
	var all []byte
	for _, n := range numbers() {
		want := binary.AppendVarint(nil, int64(n))
		got := packed.Write([]int{n})
		back, long := packed.Read(got)
		if !bytes.Equal(got, want) || back != n || long != len(want) {
			t.Errorf("%d: got %v, want %v; back comes %d of %d bytes", n, got, want, back, long)
		}
		all = append(all, want...)
	}
	if !bytes.Equal(packed.Write(numbers()), all) {
		t.Error("numbers do not stand one behind the other")
	}
	if b := packed.Write(nil); len(b) != 0 {
		t.Errorf("of no number: got %v", b)
	}
}

// TestReadDrawn: of drawn bytes just what the library reads and writes likewise.
func TestReadDrawn(t *testing.T) {
	r := rand.New(rand.NewSource(8))
	for range 200000 {
		b := make([]byte, r.Intn(13))
		for i := range b {
			b[i] = []byte{0, 1, 2, 127, 128, 129, 255, byte(r.Intn(256)), byte(128 + r.Intn(128)), 255}[r.Intn(10)]
		}
		want, far := binary.Varint(b)
		if far <= 0 || !bytes.Equal(binary.AppendVarint(nil, want), b[:far]) {
			want, far = 0, 0
		}
		if n, long := packed.Read(b); n != int(want) || long != far {
			t.Fatalf("%v: got %d of %d bytes, want %d of %d", b, n, long, want, far)
		}
	}
}

// TestListsStay: P2 and P4, what is handed in is not written into, and what stands behind it not read.
func TestListsStay(t *testing.T) {
	l := []int{5, -700, 3, 9}
	b := packed.Write(l[:2])
	if !slices.Equal(l, []int{5, -700, 3, 9}) || !bytes.Equal(b, []byte{10, 247, 10}) {
		t.Errorf("got %v of %v", b, l)
	}
	if n, long := packed.Read(b[1:2]); n != 0 || long != 0 {
		t.Errorf("got %d of %d bytes, by what stands behind", n, long)
	}
	packed.Read(b)
	if !bytes.Equal(b, []byte{10, 247, 10}) {
		t.Errorf("what was read became %v", b)
	}
	again := packed.Write(l[:2])
	again[0] = 77
	if b[0] != 10 {
		t.Error("two answers share memory")
	}
}
