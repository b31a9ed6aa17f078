package grid

import (
	"strconv"
	"strings"

	"tidewall/api"
)

// The words of a text.
const (
	headWord = "grid"
	rangeTo  = ".."
)

// Write returns a grid as a text.
func Write(g api.Grid) (string, api.Errno) {
	if e := Check(g); e != api.OK {
		return "", e
	}
	var text strings.Builder
	text.WriteString(headWord)
	for _, n := range []int{g.Wide, g.High, g.Size} {
		text.WriteString(" " + strconv.Itoa(n))
	}
	for cell, s := range g.Ground {
		if cell%g.Wide == 0 {
			text.WriteString("\n")
		} else {
			text.WriteString(" ")
		}
		text.WriteString(spanText(s))
	}
	text.WriteString("\n")
	return text.String(), api.OK
}

// Read returns the grid of a text.
func Read(s string) (api.Grid, api.Errno) {
	if len(s) > api.MaxText {
		return api.Grid{}, api.ErrLong
	}
	g, ok := parse(s)
	if !ok {
		return api.Grid{}, api.ErrForm
	}
	// A grid has a single text: to write it again finds whatever parse lets pass, be it a sign, a zero, a space or an end that is missing.
	if text, e := Write(g); e != api.OK || text != s {
		return api.Grid{}, api.ErrForm
	}
	return g, api.OK
}

// parse takes the words of a text for a grid, wherever its lines end and whether or not it is valid.
func parse(s string) (api.Grid, bool) {
	words := strings.Fields(s)
	if len(words) < 4 || words[0] != headWord {
		return api.Grid{}, false
	}
	var g api.Grid
	for i, n := range []*int{&g.Wide, &g.High, &g.Size} {
		number, err := strconv.Atoi(words[i+1])
		if err != nil {
			return api.Grid{}, false
		}
		*n = number
	}
	for _, word := range words[4:] {
		span, ok := parseSpan(word)
		if !ok {
			return api.Grid{}, false
		}
		g.Ground = append(g.Ground, span)
	}
	return g, true
}

func parseSpan(word string) (api.Span, bool) {
	from, to, isRange := strings.Cut(word, rangeTo)
	if !isRange {
		to = from
	}
	lo, err := strconv.Atoi(from)
	if err != nil {
		return api.Span{}, false
	}
	hi, err := strconv.Atoi(to)
	if err != nil {
		return api.Span{}, false
	}
	return api.Span{Lo: lo, Hi: hi}, true
}

func spanText(s api.Span) string {
	if s.Lo == s.Hi {
		return strconv.Itoa(s.Lo)
	}
	return strconv.Itoa(s.Lo) + rangeTo + strconv.Itoa(s.Hi)
}
