package orders_test

import (
	"regexp"
	"slices"
	"strconv"
	"strings"
	"testing"

	"marchland/api"
	"marchland/orders"
	"marchland/plain"
)

const fewText = "1 12 march 7\n0 3 stop\n2 4 gather 100\n3 0 train 2\n0 3 train 0\n1 12 march 0\n"

// someText is the text of some(n).
func someText(n int) string {
	text := ""
	for i := range n {
		text += strconv.Itoa(i%4) + " " + strconv.Itoa(i) + " march " + strconv.Itoa(i) + "\n"
	}
	return text
}

// texts are right lists and what stands for them.
var texts = []struct {
	l    []api.Order
	text string
}{
	{nil, ""},
	{[]api.Order{}, ""},
	{few(), fewText},
	{[]api.Order{stop(1, 2)}, "1 2 stop\n"},
	{[]api.Order{march(1, 2, 3)}, "1 2 march 3\n"},
	{[]api.Order{gather(1, 2, 3)}, "1 2 gather 3\n"},
	{[]api.Order{train(1, 2, 3)}, "1 2 train 3\n"},
	{[]api.Order{stop(0, 0)}, "0 0 stop\n"},
	{[]api.Order{march(0, 0, 0)}, "0 0 march 0\n"},
	{[]api.Order{gather(0, 0, 0)}, "0 0 gather 0\n"},
	{[]api.Order{train(0, 0, 0)}, "0 0 train 0\n"},
	{[]api.Order{stop(3, 1000000)}, "3 1000000 stop\n"},
	{[]api.Order{march(3, 1000000, 1000000)}, "3 1000000 march 1000000\n"},
	{[]api.Order{gather(3, 999999, 1000000)}, "3 999999 gather 1000000\n"},
	{[]api.Order{train(3, 1000000, 999999)}, "3 1000000 train 999999\n"},
	{[]api.Order{march(2, 10, 105), march(2, 10, 105), stop(2, 10)}, "2 10 march 105\n2 10 march 105\n2 10 stop\n"},
	{some(1), someText(1)},
	{some(59), someText(59)},
	{some(60), someText(60)},
}

// TestPrint: O1, each What, each number at its least and its most, none, one and the most orders.
func TestPrint(t *testing.T) {
	for _, c := range texts {
		if got, err := orders.Print(c.l); got != c.text || err != nil {
			t.Errorf("%v: got %q, %v; want %q", c.l, got, err, c.text)
		}
	}
}

// TestParse: O1, what Print gives.
func TestParse(t *testing.T) {
	for _, c := range texts {
		if got, at, err := orders.Parse(c.text); !slices.Equal(got, c.l) || at != 0 || err != nil {
			t.Errorf("%q: got %v, %d, %v; want %v", c.text, got, at, err, c.l)
		}
	}
}

// TestNumbersHaveTheirPlace: O1, many numbers, printed at their own word and read from there.
func TestNumbersHaveTheirPlace(t *testing.T) {
	for n := range 3000 {
		n *= 333
		l := []api.Order{march(n%4, n, n+1), stop(3-n%4, n+2), train(1, n+3, n)}
		want := strconv.Itoa(n%4) + " " + strconv.Itoa(n) + " march " + strconv.Itoa(n+1) + "\n" +
			strconv.Itoa(3-n%4) + " " + strconv.Itoa(n+2) + " stop\n" +
			"1 " + strconv.Itoa(n+3) + " train " + strconv.Itoa(n) + "\n"
		if got, err := orders.Print(l); got != want || err != nil {
			t.Errorf("%v: got %q, %v; want %q", l, got, err, want)
		}
		if got, at, err := orders.Parse(want); !slices.Equal(got, l) || at != 0 || err != nil {
			t.Errorf("%q: got %v, %d, %v; want %v", want, got, at, err, l)
		}
	}
}

// TestPrintOfWrong: O1, wrong orders have no text.
func TestPrintOfWrong(t *testing.T) {
	for _, c := range wrong() {
		if got, err := orders.Print(c.l); got != "" || plain.Told(err) != c.told {
			t.Errorf("%v: got %q, %v; want %v", c.l, got, err, c.told)
		}
	}
}

// wrongLines are lines that are wrong, each in a way of its own.
var wrongLines = []struct {
	line string
	told api.Errno
}{
	{"", api.ErrSyntax}, {" ", api.ErrSyntax}, {"  ", api.ErrSyntax}, {"   ", api.ErrSyntax}, {"?", api.ErrSyntax},
	// a word too few
	{"0", api.ErrSyntax}, {"0 0", api.ErrSyntax}, {"stop", api.ErrSyntax}, {"0 stop", api.ErrSyntax},
	{"0 0 march", api.ErrSyntax}, {"0 0 gather", api.ErrSyntax}, {"0 0 train", api.ErrSyntax},
	{"0 march 0", api.ErrSyntax}, {"march 0 0", api.ErrSyntax}, {"0 0 0", api.ErrSyntax}, {"0 0 ", api.ErrSyntax},
	// a word too many
	{"0 0 stop 0", api.ErrSyntax}, {"0 0 stop 1", api.ErrSyntax}, {"0 0 stop 0 0", api.ErrSyntax}, {"0 0 0 stop", api.ErrSyntax},
	{"0 0 march 0 0", api.ErrSyntax}, {"0 0 gather 0 0", api.ErrSyntax}, {"0 0 train 0 0", api.ErrSyntax},
	{"0 0 0 march 0", api.ErrSyntax}, {"0 0 stop march 0", api.ErrSyntax}, {"0 0 march 0 stop", api.ErrSyntax},
	{strings.Repeat("0 ", 5000), api.ErrSyntax}, {"0 0 stop" + strings.Repeat(" ", 5000), api.ErrSyntax},
	// blanks
	{" 0 0 stop", api.ErrSyntax}, {"0  0 stop", api.ErrSyntax}, {"0 0  stop", api.ErrSyntax}, {"0 0 stop ", api.ErrSyntax},
	{"0  stop", api.ErrSyntax}, {" 0 stop", api.ErrSyntax}, {"0  march 0", api.ErrSyntax}, {" 0 march 0", api.ErrSyntax},
	{" 0 0 march 0", api.ErrSyntax}, {"0  0 march 0", api.ErrSyntax}, {"0 0  march 0", api.ErrSyntax},
	{"0 0 march  0", api.ErrSyntax}, {"0 0 march 0 ", api.ErrSyntax}, {"0 0 march ", api.ErrSyntax}, {"0 0  0", api.ErrSyntax},
	{"0\t0 stop", api.ErrSyntax}, {"0 0 stop\r", api.ErrSyntax}, {"0 0 march 0\r", api.ErrSyntax}, {"0 0\vstop", api.ErrSyntax},
	// numbers
	{"00 0 stop", api.ErrSyntax}, {"01 0 stop", api.ErrSyntax}, {"0 00 stop", api.ErrSyntax}, {"0 07 stop", api.ErrSyntax},
	{"0 0 march 00", api.ErrSyntax}, {"0 0 march 01", api.ErrSyntax}, {"0 0 gather 0000001", api.ErrSyntax}, {"0 0 train 010", api.ErrSyntax},
	{"10000000 0 stop", api.ErrSyntax}, {"0 10000000 stop", api.ErrSyntax}, {"0 0 march 10000000", api.ErrSyntax},
	{"0 01000000 stop", api.ErrSyntax}, {"0 0 march 01000000", api.ErrSyntax}, {"00000000 0 stop", api.ErrSyntax},
	{"0 9223372036854775808 stop", api.ErrSyntax}, {"0 0 train 18446744073709551616", api.ErrSyntax},
	{"-1 0 stop", api.ErrSyntax}, {"0 -1 stop", api.ErrSyntax}, {"0 0 march -1", api.ErrSyntax}, {"-0 0 stop", api.ErrSyntax},
	{"+1 0 stop", api.ErrSyntax}, {"0 +1 stop", api.ErrSyntax}, {"0 0 march +1", api.ErrSyntax}, {"0 0 march -0", api.ErrSyntax},
	{"0 1_0 stop", api.ErrSyntax}, {"0 0x1 stop", api.ErrSyntax}, {"0 1e1 stop", api.ErrSyntax}, {"0 1.0 stop", api.ErrSyntax},
	{"a 0 stop", api.ErrSyntax}, {"0 a stop", api.ErrSyntax}, {"0 0 march a", api.ErrSyntax}, {"0 0 march 1a", api.ErrSyntax},
	{"0 ١ stop", api.ErrSyntax}, {"0 \xff stop", api.ErrSyntax}, {"\x000 0 stop", api.ErrSyntax},
	// words for What
	{"0 0 Stop", api.ErrSyntax}, {"0 0 STOP", api.ErrSyntax}, {"0 0 sto", api.ErrSyntax}, {"0 0 stops", api.ErrSyntax}, {"0 0 halt", api.ErrSyntax},
	{"0 0 March 0", api.ErrSyntax}, {"0 0 marc 0", api.ErrSyntax}, {"0 0 marches 0", api.ErrSyntax}, {"0 0 go 0", api.ErrSyntax},
	{"0 0 gathe 0", api.ErrSyntax}, {"0 0 gather0", api.ErrSyntax}, {"0 0 trai 0", api.ErrSyntax}, {"0 0 trains 0", api.ErrSyntax},
	{"0 0 0 0", api.ErrSyntax}, {"0 0 1 0", api.ErrSyntax}, {"0 0 3 0", api.ErrSyntax}, {"0 0  0", api.ErrSyntax}, {"0 0 x", api.ErrSyntax},
	// what Check refuses
	{"4 0 stop", api.ErrRange}, {"9999999 0 stop", api.ErrRange}, {"10 0 march 0", api.ErrRange}, {"4 0 train 0", api.ErrRange},
	{"0 1000001 stop", api.ErrRange}, {"0 9999999 gather 0", api.ErrRange}, {"0 1000001 march 5", api.ErrRange},
	{"0 0 march 1000001", api.ErrRange}, {"0 0 gather 9999999", api.ErrRange}, {"0 0 train 1000001", api.ErrRange},
	{"4 1000001 train 1000001", api.ErrRange},
	// both in one line
	{"4 0 stop 0", api.ErrSyntax}, {"4 0 march", api.ErrSyntax}, {"4 0 go 0", api.ErrSyntax}, {"4 00 stop", api.ErrSyntax},
	{"4 0 march 10000000", api.ErrSyntax}, {"0 1000001 march 01", api.ErrSyntax},
}

// TestParseWrongLines: O1, each way in which a line is wrong, alone, behind others, and ahead of another wrong one.
func TestParseWrongLines(t *testing.T) {
	for _, c := range wrongLines {
		for _, ahead := range []int{0, 1, 2, 30, 59} {
			for _, behind := range []string{"", "\n", "?", "0 0 stop\n", "4 0 stop\n", "00 0 stop\n", someText(60), someText(61)} {
				got, at, err := orders.Parse(someText(ahead) + c.line + "\n" + behind)
				if got != nil || at != ahead || plain.Told(err) != c.told {
					t.Errorf("%q, behind %d, ahead of %q: got %v, %d, %v; want %v", c.line, ahead, behind, got, at, err, c.told)
				}
			}
		}
	}
}

// TestParse61st: O1, a 61st line is too many, if it is not wrong by its words; what Check would tell of it is not asked.
func TestParse61st(t *testing.T) {
	for _, c := range wrongLines {
		told := c.told
		if told == api.ErrRange {
			told = api.ErrFull
		}
		for _, behind := range []string{"", "?", "\n", "0 0 stop\n"} {
			got, at, err := orders.Parse(someText(60) + c.line + "\n" + behind)
			if got != nil || at != 60 || plain.Told(err) != told {
				t.Errorf("%q: got %v, %d, %v; want %v", c.line, got, at, err, told)
			}
		}
	}
	for _, line := range []string{"0 0 stop\n", "0 0 stop\n?", "3 1000000 train 1000000\n", someText(60), someText(2) + "\n"} {
		got, at, err := orders.Parse(someText(60) + line)
		if got != nil || at != 60 || plain.Told(err) != api.ErrFull {
			t.Errorf("%q: got %v, %d, %v", line, got, at, err)
		}
	}
	for _, line := range []string{"0 0 stop", "0", "4 0 stop", " "} {
		got, at, err := orders.Parse(someText(60) + line)
		if got != nil || at != 60 || plain.Told(err) != api.ErrSyntax {
			t.Errorf("%q, which does not end: got %v, %d, %v", line, got, at, err)
		}
	}
}

// TestParseDoesNotEnd: O1, a text without a byte 10 at its end, wherever it is cut off.
func TestParseDoesNotEnd(t *testing.T) {
	for _, text := range []string{fewText, someText(61)} {
		for end := range len(text) {
			cut := text[:end]
			if strings.HasSuffix(cut, "\n") || cut == "" {
				continue
			}
			got, at, err := orders.Parse(cut)
			if line := strings.Count(cut, "\n"); got != nil || at != line || plain.Told(err) != api.ErrSyntax {
				t.Errorf("%q: got %v, %d, %v; want %d", cut, got, at, err, line)
			}
		}
	}
}

// form is a line's words, by another way than the program's.
var form = regexp.MustCompile(`\A(0|[1-9][0-9]{0,6}) (0|[1-9][0-9]{0,6}) (?:stop|(march|gather|train) (0|[1-9][0-9]{0,6}))\z`)

// wantOrder is the order that a line's words are, and what is wrong with it.
func wantOrder(words []string, line int) (api.Order, api.Errno) {
	if words == nil {
		return api.Order{}, api.ErrSyntax
	}
	if line == 60 {
		return api.Order{}, api.ErrFull
	}
	number := func(word string) int {
		n, _ := strconv.Atoi(word)
		return n
	}
	o := order(number(words[1]), number(words[2]), slices.Index([]string{"", "march", "gather", "train"}, words[3]), number(words[4]))
	if o.Player > 3 || o.Unit > 1000000 || o.Arg > 1000000 {
		return api.Order{}, api.ErrRange
	}
	return o, api.OK
}

// wantOrders is O1 line by line: the orders; or the first line that is wrong, and how.
func wantOrders(text string) (l []api.Order, line int, told api.Errno) {
	lines := strings.Split(text, "\n")
	for i, line := range lines[:len(lines)-1] {
		o, told := wantOrder(form.FindStringSubmatch(line), i)
		if told != api.OK {
			return nil, i, told
		}
		l = append(l, o)
	}
	if lines[len(lines)-1] != "" {
		return nil, len(lines) - 1, api.ErrSyntax
	}
	return l, 0, api.OK
}

// parseLike holds Parse against wantOrders; what is right is printed again as it was.
func parseLike(t *testing.T, text string) {
	got, at, err := orders.Parse(text)
	want, line, told := wantOrders(text)
	if at != line || plain.Told(err) != told || !slices.Equal(got, want) {
		t.Fatalf("%q: got %v, %d, %v; want %v, %d, %v", text, got, at, err, want, line, told)
	}
	if again, bad := orders.Print(got); err == nil && (again != text || bad != nil) {
		t.Fatalf("%q: printed again as %q, %v", text, again, bad)
	}
}

// TestParseEveryByte: O1, texts with each byte there is at each place, in place of the one there or ahead of it, or with one left out.
func TestParseEveryByte(t *testing.T) {
	const most = "3 1000000 march 1000000\n3 999999 train 10\n0 100 stop\n2 1 gather 0\n"
	for _, text := range []string{fewText, most} {
		for at := range len(text) {
			parseLike(t, text[:at])
			parseLike(t, text[at:])
			parseLike(t, text[:at]+text[at+1:])
			for b := range 256 {
				one := string([]byte{byte(b)})
				parseLike(t, text[:at]+one+text[at+1:])
				parseLike(t, text[:at]+one+text[at:])
			}
		}
		parseLike(t, text)
	}
}

// TestParseTwoFaults: O1, two wrong lines: the first one is told; two faults in one line.
func TestParseTwoFaults(t *testing.T) {
	const text = "1 12 march 7\n3 4 stop\n2 999999 train 0\n"
	bytes := []string{"", " ", "0", "9", "a", "-", "\n", "stop"}
	for at := range len(text) {
		for to := at + 1; to < len(text); to++ {
			for _, a := range bytes {
				for _, b := range bytes {
					parseLike(t, text[:at]+a+text[at+1:to]+b+text[to+1:])
				}
			}
		}
	}
}

// TestParseLast: O1, each byte at each place of the last lines that may be, and of one more.
func TestParseLast(t *testing.T) {
	ahead := someText(59)
	const text = "0 7 stop\n1 20 train 3\n"
	for at := range len(text) {
		for _, one := range []string{"", " ", "0", "9", "9999999", "a", "-", "\n"} {
			parseLike(t, ahead+text[:at]+one+text[at+1:])
			parseLike(t, ahead+text[:at]+one+text[at:])
		}
	}
}

// TestParseIsFresh: P2, each answer is the caller's.
func TestParseIsFresh(t *testing.T) {
	l, _, _ := orders.Parse(fewText)
	again, _, _ := orders.Parse(fewText)
	for i := range l[:cap(l)] {
		l[:cap(l)][i] = order(9, 9, 9, 9)
	}
	last, _, _ := orders.Parse(fewText)
	if !slices.Equal(again, few()) || !slices.Equal(last, few()) {
		t.Errorf("what was written into an answer stands in another one: %v, %v", again, last)
	}
}
