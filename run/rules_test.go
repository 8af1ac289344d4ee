package run_test

import (
	"errors"
	"math"
	"strconv"
	"testing"

	"marchland/api"
	"marchland/fix"
	"marchland/plain"
)

// TestErrorNumbers: P3, the numbers of errors and their names.
func TestErrorNumbers(t *testing.T) {
	l := []struct {
		e    api.Errno
		name string
	}{
		{api.OK, "OK"}, {api.ErrRange, "ErrRange"}, {api.ErrSyntax, "ErrSyntax"}, {api.ErrShape, "ErrShape"},
		{api.ErrFull, "ErrFull"}, {api.ErrOrder, "ErrOrder"}, {api.ErrNone, "ErrNone"}, {api.ErrState, "ErrState"},
		{api.ErrClash, "ErrClash"}, {api.ErrFile, "ErrFile"},
	}
	for i, c := range l {
		if int(c.e) != i || c.e.Error() != c.name || plain.Told(c.e) != c.e {
			t.Errorf("%s: number %d, name %s, told as %v", c.name, int(c.e), c.e.Error(), plain.Told(c.e))
		}
	}
	if plain.Told(nil) != api.OK || plain.Told(errors.New("other")) != -1 {
		t.Error("nil is not told as OK, or another error not as -1")
	}
}

// TestNamedNumbers: P3, numbers that have a name in the chapters stand in package api.
func TestNamedNumbers(t *testing.T) {
	for _, c := range []struct {
		name      string
		got, want int
	}{
		{"MaxSide", api.MaxSide, 12}, {"MaxPlayers", api.MaxPlayers, 4}, {"MaxKinds", api.MaxKinds, 8},
		{"MaxUnits", api.MaxUnits, 40}, {"MaxQueue", api.MaxQueue, 12}, {"MaxOrders", api.MaxOrders, 60},
		{"MaxNumber", api.MaxNumber, 1000000}, {"MaxTurns", api.MaxTurns, 200}, {"MaxWorlds", api.MaxWorlds, 8},
		{"MaxBytes", api.MaxBytes, 6000}, {"MaxItems", api.MaxItems, 200}, {"MaxRun", api.MaxRun, 3000},
	} {
		if c.got != c.want {
			t.Errorf("%s: got %d, want %d", c.name, c.got, c.want)
		}
	}
}

// TestIntHas64Bits: P4.
func TestIntHas64Bits(t *testing.T) {
	if strconv.IntSize != 64 {
		t.Errorf("an int has %d bits", strconv.IntSize)
	}
}

// fixCalls are all calls of package fix that may say an error, each with one number at all its places.
func fixCalls(x int) map[string]func() (int, error) {
	return map[string]func() (int, error){
		"Of":   func() (int, error) { return fix.Of(x) },
		"Mul":  func() (int, error) { return fix.Mul(x, x) },
		"Div":  func() (int, error) { return fix.Div(x, x) },
		"Root": func() (int, error) { return fix.Root(x) },
		"Far":  func() (int, error) { return fix.Far(x, x, x, x) },
	}
}

// TestAnswersStay: P1 to P3: no call panics, an error comes with 0 and is one of the program's,
// and the same arguments get the same answer, whatever was asked between.
func TestAnswersStay(t *testing.T) {
	l := []int{0, 1, -1, 65536, api.MaxNumber, -api.MaxNumber, api.MaxNumber + 1, -api.MaxNumber - 1,
		1 << 40, -1 << 40, 1<<40 + 1, -1<<40 - 1, math.MaxInt, math.MinInt}
	for _, x := range l {
		for name, call := range fixCalls(x) {
			got, err := call()
			if err != nil && (got != 0 || plain.Told(err) < api.ErrRange || plain.Told(err) > api.ErrFile) {
				t.Errorf("%s of %d: got %d with the error %v", name, x, got, err)
			}
			for _, other := range l {
				fixCalls(other)[name]()
			}
			again, bad := call()
			if again != got || plain.Told(bad) != plain.Told(err) {
				t.Errorf("%s of %d: got %d, %v, and then %d, %v", name, x, got, err, again, bad)
			}
		}
	}
}
