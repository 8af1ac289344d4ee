package kinds

import (
	"strconv"
	"strings"

	"marchland/api"
	"marchland/digits"
)

const (
	blank      = " "
	endLine    = "\n"
	flies      = "f"
	trains     = "t"
	isNot      = "-"
	wordsOfOne = 11
	mostDigits = 4
)

// Print writes kinds.
func Print(l []api.Kind) (string, error) {
	if err := Check(l); err != nil {
		return "", err
	}
	var text strings.Builder
	for _, k := range l {
		text.WriteString(write(k))
	}
	return text.String(), nil
}

func write(k api.Kind) string {
	words := []string{k.Name}
	for _, n := range numbers(k) {
		words = append(words, strconv.Itoa(n))
	}
	words = append(words, mark(k.Flies, flies), mark(k.Trains, trains))
	return strings.Join(words, blank) + endLine
}

func mark(is bool, word string) string {
	if is {
		return word
	}
	return isNot
}

// Parse reads kinds.
func Parse(text string) ([]api.Kind, int, error) {
	var l []api.Kind
	for line := range strings.Lines(text) {
		k, err := next(l, line)
		if err != nil {
			return nil, len(l), err
		}
		l = append(l, k)
	}
	return l, 0, nil
}

// next reads the kind that stands behind others.
func next(ahead []api.Kind, line string) (api.Kind, error) {
	k, ok := read(line)
	if !ok {
		return api.Kind{}, api.ErrSyntax
	}
	if len(ahead) == api.MaxKinds {
		return api.Kind{}, api.ErrFull
	}
	return k, checkKind(ahead, k)
}

// read tells whether a line has the words of a kind; a name may be any word here, since it is for Check to tell what is wrong with it.
func read(line string) (api.Kind, bool) {
	line, ends := strings.CutSuffix(line, endLine)
	// One word too many is enough to know, however many a long line has.
	words := strings.SplitN(line, blank, wordsOfOne+1)
	if !ends || len(words) != wordsOfOne || words[0] == "" {
		return api.Kind{}, false
	}
	n, ok := readNumbers(words[1:9])
	air, school := words[9], words[10]
	if !ok || !isMark(air, flies) || !isMark(school, trains) {
		return api.Kind{}, false
	}
	return api.Kind{
		Name: strings.Clone(words[0]), // what comes out shares no memory with the text
		Life: n[0], Hit: n[1], Range: n[2], Sight: n[3], Speed: n[4], Price: n[5], Turns: n[6], Carry: n[7],
		Flies: air == flies, Trains: school == trains,
	}, true
}

func isMark(word, is string) bool { return word == is || word == isNot }

func readNumbers(words []string) (n [8]int, ok bool) {
	for i, word := range words {
		if n[i], ok = digits.Read(word, mostDigits); !ok {
			return n, false
		}
	}
	return n, true
}
