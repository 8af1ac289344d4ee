package field

import (
	"strings"

	"marchland/api"
)

const (
	signs   = ".#~^" // of the grounds, each at its number
	endLine = '\n'

	ten  = 10 // how much ore a digit stands for, as many times
	most = 9 * ten
)

// Print writes a field.
func Print(f api.Field) (string, error) {
	if err := ask(f); err != nil {
		return "", err
	}
	var text []byte
	for row := range f.High {
		for col := range f.Wide {
			at := row*f.Wide + col
			text = append(text, sign(f.Ground[at], f.Ore[at]))
		}
		text = append(text, endLine)
	}
	return string(text), nil
}

func sign(ground, ore int) byte {
	switch {
	case ore == 0:
		return signs[ground]
	case ore%ten == 0 && ore <= most:
		return byte('0' + ore/ten)
	}
	return '+'
}

// meant is what a sign stands for, if it is one that may be read: what a `+` stood for is lost.
func meant(b byte) (ground, ore int, ok bool) {
	if '1' <= b && b <= '9' {
		return api.Plain, int(b-'0') * ten, true
	}
	ground = strings.IndexByte(signs, b)
	return ground, 0, ground >= 0
}

// Parse reads a field.
func Parse(text string) (api.Field, int, error) {
	var d draft
	for at := range len(text) {
		if err := d.read(text[at]); err != nil {
			return api.Field{}, at, err
		}
	}
	if d.col > 0 || d.High == 0 {
		return api.Field{}, len(text), api.ErrSyntax
	}
	return d.Field, 0, nil
}

// draft is a field as far as its text is read.
type draft struct {
	api.Field     // High: how many lines have ended; Wide is 0 until the first one has
	col       int // how many signs the line has that has not ended
}

func (d *draft) read(b byte) error {
	if b == endLine {
		return d.end()
	}
	ground, ore, ok := meant(b)
	if !ok || d.High > 0 && d.col == d.Wide {
		return api.ErrSyntax
	}
	if d.col == api.MaxSide || d.High == api.MaxSide {
		return api.ErrFull
	}
	d.Ground = append(d.Ground, ground)
	d.Ore = append(d.Ore, ore)
	d.col++
	return nil
}

func (d *draft) end() error {
	if d.col == 0 || d.col < d.Wide {
		return api.ErrSyntax
	}
	d.Wide = d.col
	d.High++
	d.col = 0
	return nil
}
