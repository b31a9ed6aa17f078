package grid_test

import (
	"slices"
	"strconv"
	"strings"
	"testing"

	"tidewall/api"
	"tidewall/grid"
)

const textA = "grid 4 1 100\n-500 10..20 -30..-10 5..40\n"

// P1.5: the texts of some grids, with the example of the chapter.
func TestTexts(t *testing.T) {
	two := api.Grid{Wide: 2, High: 3, Size: 10000, Ground: []api.Span{sp(-1200000, 1200000), sp(0), sp(-1, 0), sp(0, 1), sp(-10), sp(1200000)}}
	for k, x := range []struct {
		g    api.Grid
		text string
	}{
		{exampleA(), textA},
		{row(sp(0)), "grid 1 1 100\n0\n"},
		{api.Grid{Wide: 1, High: 2, Size: 7, Ground: []api.Span{sp(5, 6), sp(-6, -5)}}, "grid 1 2 7\n5..6\n-6..-5\n"},
		{two, "grid 2 3 10000\n-1200000..1200000 0\n-1..0 0..1\n-10 1200000\n"},
	} {
		if s, e := grid.Write(x.g); e != api.OK || s != x.text {
			t.Error(k, s, e)
		}
		if g, e := grid.Read(x.text); e != api.OK || !same(g, x.g) {
			t.Error(k, g, e)
		}
	}
}

// P1.5, R9: what is not exactly a text of a valid grid is not read.
func TestReadForm(t *testing.T) {
	one := func(cell string) string { return "grid 1 1 1\n" + cell + "\n" }
	bad := []string{
		// lines, words and spaces
		"", "\n", "grid", "grid\n", "grid 1 1 1", "grid 1 1 1\n", "grid 1 1 1\n0", "grid 1 1 1\n\n0\n", "grid 1 1 1\n0\n\n", "grid 1 1 1 0\n", "grid 1 1\n1\n0\n",
		textA + textA, textA + "\n", textA + " ", " " + textA, "\n" + textA, textA[:len(textA)-1], strings.ReplaceAll(textA, "\n", "\r\n"),
		strings.ReplaceAll(textA, " ", "  "), strings.ReplaceAll(textA, " ", "\t"), strings.ReplaceAll(textA, " ", "\u00a0"), strings.ReplaceAll(textA, " ", ","),
		strings.ReplaceAll(textA, "\n", " \n"), strings.ReplaceAll(textA, "\n", "\n "), strings.ToUpper(textA), "1 1 1\n0\n", "gri 1 1 1\n0\n", "grid1 1 1\n0\n", "grid 1 1 1 1\n0\n", "dirg 1 1 1\n0\n",
		// rows and cells that do not fit
		"grid 2 1 1\n0\n", "grid 2 1 1\n0\n0\n", "grid 1 2 1\n0 0\n", "grid 1 1 1\n0 0\n", "grid 1 2 1\n0\n", "grid 2 2 1\n0 0 0\n0\n",
		// numbers of the grid
		"grid 0 1 1\n\n", "grid -1 1 1\n0\n", "grid 1 0 1\n", "grid 1 1 0\n0\n", "grid 1 1 10001\n0\n", "grid 01 1 1\n0\n", "grid +1 1 1\n0\n", "grid 1.0 1 1\n0\n", "grid 1 1 1..1\n0\n", "grid one 1 1\n0\n", "grid 1 1 1e2\n0\n",
		"grid 25 1 1\n" + strings.Repeat("0 ", 24) + "0\n", "grid 1 25 1\n" + strings.Repeat("0\n", 25), "grid 18446744073709551617 1 1\n0\n", "grid 9223372036854775808 1 1\n0\n", "grid -9223372036854775808 1 1\n0\n",
	}
	for _, cell := range []string{
		"", "-", "+1", "-0", "00", "01", "-01", "1_0", "0x1", "1.", "1.0", ".5", "1..", "..1", "..", "1..2..3", "1...2", "1.2", "1. .2", "1..+2", "1..02", "-0..1", "-1..-0", "--1", "1-", "5..5", "0..0", "-3..-3", "5..4", "1 ..2", "1.. 2", "1..2 ", " 1", "1,2", "a", "1a", "1e3", "\u0661", "1\x00", "\xff",
		"1200001", "-1200001", "0..1200001", "-1200001..0", "9223372036854775808", "-9223372036854775809..0", "18446744073709551616", "18446744073709551616..18446744073709551617", "0..18446744073709551616", strings.Repeat("9", 1000),
	} {
		bad = append(bad, one(cell))
	}
	for _, s := range bad {
		if g, e := grid.Read(s); e != api.ErrForm || !isZero(g) {
			t.Errorf("%q: %v %v", s, g, e)
		}
	}
}

// P1.5, R7: the greatest text that is looked at, and one that is too long, whatever is in it.
func TestReadLong(t *testing.T) {
	for k, x := range []struct {
		s string
		e api.Errno
	}{
		{textA + strings.Repeat("\n", 65536-len(textA)), api.ErrForm},
		{textA + strings.Repeat("\n", 65537-len(textA)), api.ErrLong},
		{"grid 24 24 1\n" + strings.Repeat("0 ", 32761), api.ErrForm},
		{strings.Repeat("9", 65536), api.ErrForm},
		{strings.Repeat("9", 65537), api.ErrLong},
		{strings.Repeat("\x00", 1<<20), api.ErrLong},
	} {
		if g, e := grid.Read(x.s); e != x.e || !isZero(g) {
			t.Error(k, g, e)
		}
	}
}

// P1.10: the longest text can be read, and so can those of grids of all shapes.
func TestReadOfWrite(t *testing.T) {
	r := dice(11)
	for k := range 100 {
		g := randomGrid(r, 1+r.IntN(api.MaxSide), 1+r.IntN(api.MaxSide), 1+r.IntN(api.MaxGround), r.IntN(100))
		if k == 0 {
			g = flat(api.MaxSide, api.MaxSide)
			g.Size = api.MaxSize
			for i := range g.Ground {
				g.Ground[i] = sp(-api.MaxGround, -api.MaxGround+1)
			}
		}
		s, e := grid.Write(g)
		if e != api.OK || len(s) > api.MaxText {
			t.Fatal(k, e, len(s))
		}
		if got, e := grid.Read(s); e != api.OK || !same(got, g) {
			t.Error(k, got, e)
		}
	}
}

// plainText is the text of a grid, written without the package.
func plainText(g api.Grid) string {
	number := strconv.Itoa
	s := "grid " + number(g.Wide) + " " + number(g.High) + " " + number(g.Size) + "\n"
	for cells := range slices.Chunk(g.Ground, g.Wide) {
		var words []string
		for _, c := range cells {
			if c.Lo == c.Hi {
				words = append(words, number(c.Lo))
			} else {
				words = append(words, number(c.Lo)+".."+number(c.Hi))
			}
		}
		s += strings.Join(words, " ") + "\n"
	}
	return s
}

// checkReading checks that a text is either read as the grid whose text it is, or not at all.
func checkReading(t *testing.T, s string) {
	g, e := grid.Read(s)
	switch {
	case e == api.OK && (grid.Check(g) != api.OK || plainText(g) != s):
		t.Errorf("%q is read as %v", s, g)
	case e == api.ErrForm && !isZero(g) || e != api.OK && e != api.ErrForm:
		t.Errorf("%q: %v %v", s, g, e)
	}
	if e == api.OK {
		if again, e := grid.Write(g); e != api.OK || again != s {
			t.Errorf("%q is written as %q", s, again)
		}
	}
}

// P1.10: whatever is changed in a text by a byte, Write of what is read is the text.
func TestWriteOfRead(t *testing.T) {
	texts := []string{textA, "grid 2 2 10\n0..1 -1..0\n-10..-9 11\n"}
	read := 0
	for _, text := range texts {
		for i := range len(text) {
			checkReading(t, text[:i]+text[i+1:])
			for _, b := range []byte("0123456789-.+ \n\tgx\x00\xff") {
				for _, s := range []string{text[:i] + string(rune(b)) + text[i:], text[:i] + string([]byte{b}) + text[i+1:]} {
					checkReading(t, s)
					if _, e := grid.Read(s); e == api.OK {
						read++
					}
				}
			}
		}
	}
	if read < 100 {
		t.Error("few of the texts were read:", read)
	}
}

func FuzzRead(f *testing.F) {
	for _, s := range []string{"", textA, "grid 1 1 1\n0\n", "grid 2 2 10\n0..1 -1..0\n-10..-9 11\n", "grid 1 1 1\n-0\n"} {
		f.Add(s)
	}
	f.Fuzz(func(t *testing.T, s string) {
		if len(s) <= api.MaxText {
			checkReading(t, s)
		}
	})
}
