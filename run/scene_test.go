package run_test

import (
	"regexp"
	"strconv"
	"strings"
	"testing"

	"marchland/api"
	"marchland/dice"
	"marchland/field"
	"marchland/fix"
	"marchland/plain"
	"marchland/run"
	"marchland/sight"
	"marchland/turn"
	"marchland/world"
)

// The kinds, by their numbers.
const (
	base = iota
	digger
	fighter
	bird
)

func sorts() []api.Kind {
	return []api.Kind{
		base:    {Name: "base", Life: 50, Sight: 4, Price: 50, Turns: 5, Trains: true},
		digger:  {Name: "digger", Life: 10, Sight: 3, Speed: 2, Price: 10, Turns: 2, Carry: 20},
		fighter: {Name: "fighter", Life: 20, Hit: 4, Range: 1, Sight: 4, Speed: 2, Price: 20, Turns: 3},
		bird:    {Name: "bird", Life: 8, Hit: 3, Range: 2, Sight: 5, Speed: 3, Price: 25, Turns: 3, Flies: true},
	}
}

// plays asks lines, each followed by its answer: all of them, with and without an end of the last line, and each beginning (Z2).
func plays(t *testing.T, pairs ...string) {
	t.Helper()
	var text, want string
	for i := 0; i+1 < len(pairs); i += 2 {
		text += pairs[i]
		want += pairs[i+1] + "\n"
		if pairs[i] != "" { // a last piece that is empty is no line
			answers(t, text, want)
		}
		text += "\n"
		answers(t, text, want)
	}
}

func answers(t *testing.T, text, want string) {
	t.Helper()
	if got := run.Run(text); got != want {
		t.Fatalf("%q: got %q, want %q", text, got, want)
	}
}

// behind asks lines behind others, all of which are to be taken, and says what is answered to the last of them.
func behind(t *testing.T, ahead []string, lines ...string) string {
	t.Helper()
	text := strings.Join(append(append([]string(nil), ahead...), lines...), "\n")
	got := strings.Split(run.Run(text), "\n")
	for i, line := range ahead {
		if got[i] != "ok" {
			t.Fatalf("%q, ahead of all: got %q", line, got[i])
		}
	}
	return got[len(got)-2]
}

// model answers lines by the chapter's words, read as forms, and by the layers.
type model struct {
	begun bool
	w     api.World
	waits []api.Order
}

const (
	formN    = `(0|-?[1-9][0-9]{0,8})`
	formRows = `([^ ]*)`
)

// forms are those of all lines.
var forms = func() (l []*regexp.Regexp) {
	for _, form := range []string{
		"field N N ROWS", "place N N N", "stop N N", "march N N N", "gather N N N", "train N N N",
		"step", "units", "gold", "sum", "seen N", "far N N N N", "dice N N",
	} {
		form = strings.ReplaceAll(strings.ReplaceAll(form, "ROWS", "Z"), "N", formN)
		l = append(l, regexp.MustCompile(`\A`+strings.ReplaceAll(form, "Z", formRows)+`\z`))
	}
	return l
}()

func (m *model) answer(line string) string {
	for _, form := range forms {
		found := form.FindStringSubmatch(line)
		if found == nil {
			continue
		}
		var n [4]int
		for i, word := range found[1:] {
			n[i%4], _ = strconv.Atoi(word) // ROWS too, which is not asked for as a number
		}
		what, _, _ := strings.Cut(line, " ")
		if !m.begun && what != "field" && what != "far" && what != "dice" {
			return "ErrState"
		}
		return m.does(what, n, found[len(found)-1])
	}
	return "bad"
}

func (m *model) does(what string, n [4]int, rows string) string {
	switch what {
	case "field":
		return m.field(n[0], n[1], rows)
	case "place":
		w, err := world.Place(sorts(), m.w, n[0], n[1], n[2])
		if err == nil {
			m.w = w
		}
		return or(err, "ok")
	case "stop":
		return m.waiting(api.Order{Player: n[0], Unit: n[1], What: api.DoStop})
	case "march":
		return m.waiting(api.Order{Player: n[0], Unit: n[1], What: api.DoMarch, Arg: n[2]})
	case "gather":
		return m.waiting(api.Order{Player: n[0], Unit: n[1], What: api.DoGather, Arg: n[2]})
	case "train":
		return m.waiting(api.Order{Player: n[0], Unit: n[1], What: api.DoTrain, Arg: n[2]})
	case "step":
		w, events, err := turn.Step(sorts(), m.w, m.waits)
		if err == nil {
			m.w, m.waits = w, nil
		}
		return or(err, strconv.Itoa(len(events)))
	case "units":
		return unitsOf(m.w)
	case "gold":
		var words []string
		for _, n := range m.w.Gold {
			words = append(words, strconv.Itoa(n))
		}
		return strings.Join(words, " ")
	case "sum":
		return strconv.Itoa(sumOf(numbersOf(m.w)))
	case "seen":
		cells, err := sight.Seen(sorts(), m.w, n[0])
		many := 0
		for _, is := range cells {
			if is {
				many++
			}
		}
		return or(err, strconv.Itoa(many))
	case "far":
		far, err := fix.Far(n[0], n[1], n[2], n[3])
		return or(err, strconv.Itoa(far))
	}
	x, err := dice.New(n[0]).Below(n[1])
	return or(err, strconv.Itoa(x))
}

func (m *model) field(players, gold int, rows string) string {
	var text string
	for _, row := range strings.Split(rows, "/") {
		text += row + "\n"
	}
	f, _, err := field.Parse(text)
	if err != nil {
		return or(err, "")
	}
	w, err := world.New(sorts(), f, players, gold)
	if err == nil {
		*m = model{begun: true, w: w}
	}
	return or(err, "ok")
}

// waiting is O1's Check, of an order behind those that are right.
func (m *model) waiting(o api.Order) string {
	switch {
	case len(m.waits) == 60:
		return "ErrFull"
	case o.Player < 0, o.Player > 3, o.Unit < 0, o.Unit > 1000000, o.Arg < 0, o.Arg > 1000000:
		return "ErrRange"
	}
	m.waits = append(m.waits, o)
	return "ok"
}

func or(err error, told string) string {
	if err != nil {
		return plain.Told(err).Error()
	}
	return told
}

func unitsOf(w api.World) (text string) {
	for _, u := range w.Units {
		for i, n := range []int{u.Id, u.Player, u.Kind, u.At, u.Life, u.Load} {
			text += strconv.Itoa(n) + ", "[i/5:i/5+1]
		}
	}
	if text == "" {
		return "-"
	}
	return text[:len(text)-1]
}

// numbersOf are those that S3's Encode writes.
func numbersOf(w api.World) []int {
	l := []int{w.Turn, w.Next, w.Field.Wide, w.Field.High, len(w.Field.Ground)}
	l = append(l, w.Field.Ground...)
	l = append(append(l, len(w.Field.Ore)), w.Field.Ore...)
	l = append(append(l, len(w.Gold)), w.Gold...)
	l = append(l, len(w.Units))
	for _, u := range w.Units {
		l = append(l, u.Id, u.Player, u.Kind, u.At, u.Life, u.Load, u.Task, u.Goal)
	}
	l = append(l, len(w.Queue))
	for _, j := range w.Queue {
		l = append(l, j.Player, j.Unit, j.Kind, j.Left)
	}
	return l
}

// sumOf is S3's Sum of numbers that are not below 0.
func sumOf(numbers []int) int {
	x := 1
	for _, n := range numbers {
		for n *= 2; ; n /= 128 {
			if n < 128 {
				x = (x*257 + n) % 1000000007
				break
			}
			x = (x*257 + n%128 + 128) % 1000000007
		}
	}
	return x
}

// answersOf is what a model answers a text: each line, cut by hand.
func answersOf(text string) (told string) {
	if len(text) > 3000 {
		return "too long\n"
	}
	var m model
	for text != "" {
		line, rest, _ := strings.Cut(text, "\n")
		told += m.answer(line) + "\n"
		text = rest
	}
	return told
}
