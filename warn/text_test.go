package warn_test

import (
	"fmt"
	"math/rand/v2"
	"slices"
	"strconv"
	"strings"
	"testing"

	"tidewall/api"
	"tidewall/warn"
)

// second is the second bulletin of the chapter's examples.
func second() warn.Bulletin {
	return warn.Bulletin{Centre: "west", Event: "e1", Number: 2, Time: 4000000, Items: []warn.Item{{Region: "bay", Stage: warn.Alert, Reason: warn.Less, Arrive: sp(5000000, 7000000), Rise: sp(0, 60)}}}
}

const secondText = "BULLETIN west e1 2 4000000\nREGION bay ALERT LESS 5000000 7000000 0 60 TIMELY\nEND 3863\n"

// item is an item that is valid.
func item(name string) warn.Item {
	return warn.Item{Region: name, Stage: warn.Warning, Reason: warn.Kept, Arrive: sp(5, api.Never), Rise: sp(4, 60), Late: true}
}

func bulletin(l ...warn.Item) warn.Bulletin {
	return warn.Bulletin{Centre: "a", Event: "b", Number: 1, Items: l}
}

// withSum adds the line that ends a text. The sum is a number with the base 31 whose digits are the bytes, behind a digit 1: here it is taken from its last digit on.
func withSum(lines string) string {
	sum, power := 0, 1
	for _, b := range slices.Backward([]byte(lines)) {
		sum += int(b) * power % 65521
		power = 31 * power % 65521
	}
	return fmt.Sprintf("%sEND %d\n", lines, (sum+power)%65521)
}

// textOf is the text of a bulletin, written without the package.
func textOf(b warn.Bulletin) string {
	time := func(t int) string {
		if t == 1<<40 {
			return "NEVER"
		}
		return fmt.Sprint(t)
	}
	s := fmt.Sprintf("BULLETIN %s %s %d %d\n", b.Centre, b.Event, b.Number, b.Time)
	for _, x := range b.Items {
		stage := map[int]string{0: "NONE", 1: "NOTICE", 2: "ALERT", 3: "WARNING"}[x.Stage]
		reason := map[int]string{1: "FIRST", 2: "RAISED", 3: "KEPT", 4: "LESS", 5: "PASSED"}[x.Reason]
		timing := map[bool]string{true: "LATE", false: "TIMELY"}[x.Late]
		s += fmt.Sprintf("REGION %s %s %s %s %s %d %d %s\n", x.Region, stage, reason, time(x.Arrive.Lo), time(x.Arrive.Hi), x.Rise.Lo, x.Rise.Hi, timing)
	}
	return withSum(s)
}

// randomBulletin is any valid bulletin, of few items.
func randomBulletin(r *rand.Rand) warn.Bulletin {
	b := warn.Bulletin{Centre: randomName(r), Event: randomName(r), Number: 1 + r.IntN(1000000), Time: r.IntN(1000000001)}
	for range r.IntN(4) {
		x := randomState(r, []int{9, 1000000}[r.IntN(2)])
		name := randomName(r)
		if !slices.ContainsFunc(b.Items, func(x warn.Item) bool { return x.Region == name }) {
			b.Items = append(b.Items, warn.Item{Region: name, Stage: r.IntN(4), Reason: 1 + r.IntN(5), Arrive: x.Arrive, Rise: x.Rise, Late: r.IntN(2) == 0})
		}
	}
	return b
}

func randomName(r *rand.Rand) string {
	const letters = "abcdefghijklmnopqrstuvwxyz"
	s := string(letters[r.IntN(26)])
	for range r.IntN(12) {
		s += string((letters + "0123456789_")[r.IntN(37)])
	}
	return s
}

// The examples of the chapter, and those of DOC.md and chapter 14 that show texts.
func TestTextExamples(t *testing.T) {
	for _, x := range []struct {
		b    warn.Bulletin
		text string
	}{
		{second(), secondText},
		{bulletin(), "BULLETIN a b 1 0\nEND 39762\n"},
		{warn.Bulletin{Centre: "west", Event: "e1", Number: 1, Items: []warn.Item{{Region: "bay", Stage: warn.Warning, Reason: warn.First, Arrive: sp(116926, 216928), Rise: sp(11, 644), Late: true}}}, "BULLETIN west e1 1 0\nREGION bay WARNING FIRST 116926 216928 11 644 LATE\nEND 24135\n"},
		{warn.Bulletin{Centre: "west", Event: "e1", Number: 2, Time: 10, Items: []warn.Item{{Region: "bay", Stage: warn.None, Reason: warn.Less, Arrive: sp(api.Never)}}}, "BULLETIN west e1 2 10\nREGION bay NONE LESS NEVER NEVER 0 0 TIMELY\nEND 5917\n"},
		{warn.Bulletin{Centre: "a", Event: "b", Number: 128982}, "BULLETIN a b 128982 0\nEND 0\n"},
	} {
		checkText(t, x.b, x.text)
	}
}

// The second bulletin of the examples is written as it was issued.
func TestTextOfIssue(t *testing.T) {
	c := west(t)
	issue(t, c, 1000000, state(sp(5000000, 7000000), sp(0, 300)))
	if s, e := warn.Write(issue(t, c, 4000000, state(sp(5000000, 7000000), sp(0, 60)))); e != api.OK || s != secondText {
		t.Error(s, e)
	}
}

// checkText checks that a bulletin has a text, and that it is read again.
func checkText(t *testing.T, b warn.Bulletin, text string) {
	t.Helper()
	if e := warn.CheckBulletin(b); e != api.OK {
		t.Error(b, e)
	}
	if s, e := warn.Write(b); e != api.OK || s != text {
		t.Errorf("%v: %q %v, want %q", b, s, e, text)
	}
	if got, e := warn.Read(text); e != api.OK || !same(got, b) {
		t.Errorf("%q: %v %v", text, got, e)
	}
}

// P7.3, P7.8, R9: all words of a text, and all ends of its numbers.
func TestGoodTexts(t *testing.T) {
	for stage := range 4 {
		for reason := 1; reason <= 5; reason++ {
			for _, late := range []bool{false, true} {
				for _, x := range goodStates() {
					b := bulletin(warn.Item{Region: "r", Stage: stage, Reason: reason, Arrive: x.Arrive, Rise: x.Rise, Late: late}, item("s"))
					checkText(t, b, textOf(b))
				}
			}
		}
	}
	for _, name := range names() {
		for _, b := range []warn.Bulletin{{Centre: name, Event: "b", Number: 1000000}, {Centre: "a", Event: name, Number: 1, Time: 1000000000}, bulletin(item("r"), item(name)), {Centre: name, Event: name, Number: 10, Time: 1, Items: []warn.Item{item(name)}}} {
			checkText(t, b, textOf(b))
		}
	}
}

// P7.8: texts of bulletins of all kinds, and the greatest one.
func TestReadOfWrite(t *testing.T) {
	r := dice(2)
	for range 3000 {
		b := randomBulletin(r)
		checkText(t, b, textOf(b))
	}
	b := warn.Bulletin{Centre: "abcdefghijkl", Event: "mnopqrstuvwx", Number: 1000000, Time: 1000000000}
	for i := range 64 {
		b.Items = append(b.Items, warn.Item{Region: fmt.Sprintf("region_%05d", i), Stage: warn.Warning, Reason: warn.Raised, Arrive: sp(1000000000), Rise: sp(1000000), Late: false})
	}
	checkText(t, b, textOf(b))
}

// badBulletin is a bulletin that is not valid.
type badBulletin struct {
	b warn.Bulletin
	e api.Errno
}

// badHeads are bulletins whose items are not looked at. The second one has an error that is named later, too.
func badHeads() []badBulletin {
	var l []badBulletin
	add := func(e api.Errno, change func(*warn.Bulletin)) {
		for _, items := range [][]warn.Item{{item("a")}, {{}}, make([]warn.Item, 65)} {
			b := bulletin(items...)
			change(&b)
			l = append(l, badBulletin{b, e})
		}
	}
	for _, name := range badNames() {
		add(api.ErrName, func(b *warn.Bulletin) { b.Centre = name })
		add(api.ErrName, func(b *warn.Bulletin) { b.Event = name })
		add(api.ErrName, func(b *warn.Bulletin) { b.Centre, b.Number = name, 0 })
		add(api.ErrName, func(b *warn.Bulletin) { b.Event, b.Time = name, -1 })
	}
	for _, n := range badNumbers(1, 1000000) {
		add(api.ErrRange, func(b *warn.Bulletin) { b.Number = n })
	}
	for _, n := range append(badNumbers(0, 1000000000), api.Never) {
		add(api.ErrRange, func(b *warn.Bulletin) { b.Time = n })
	}
	return append(l, badBulletin{bulletin(make([]warn.Item, 65)...), api.ErrMany}, badBulletin{warn.Bulletin{}, api.ErrName})
}

// badItem is an item that is not as stated, behind one with the region `bay`.
type badItem struct {
	x warn.Item
	e api.Errno
}

// badItems are items with an error, and with another one that is named behind it.
func badItems() []badItem {
	var l []badItem
	add := func(e api.Errno, change func(*warn.Item)) {
		x := item("a")
		change(&x)
		l = append(l, badItem{x, e})
	}
	for _, name := range badNames() {
		add(api.ErrName, func(x *warn.Item) { x.Region = name })
		add(api.ErrName, func(x *warn.Item) { *x = warn.Item{Region: name} })
	}
	add(api.ErrHave, func(x *warn.Item) { x.Region = "bay" })
	add(api.ErrHave, func(x *warn.Item) { *x = warn.Item{Region: "bay", Stage: -1, Rise: sp(-1)} })
	for _, n := range badNumbers(0, 3) {
		add(api.ErrArg, func(x *warn.Item) { x.Stage = n })
		add(api.ErrArg, func(x *warn.Item) { x.Stage, x.Rise = n, sp(-1) })
	}
	for _, n := range badNumbers(1, 5) {
		add(api.ErrArg, func(x *warn.Item) { x.Reason = n })
		add(api.ErrArg, func(x *warn.Item) { x.Reason, x.Arrive = n, sp(-1) })
	}
	for _, bad := range badStates() {
		add(api.ErrRange, func(x *warn.Item) { x.Arrive, x.Rise = bad.Arrive, bad.Rise })
	}
	return l
}

// badBulletins are bulletins that are not valid, in all ways of the chapter.
func badBulletins() []badBulletin {
	l, items := badHeads(), badItems()
	for k, bad := range items {
		other := items[(k+11)%len(items)]
		for _, b := range []warn.Bulletin{bulletin(item("bay"), bad.x), bulletin(item("bay"), bad.x, other.x, item("bay")), bulletin(item("b"), item("c"), item("bay"), item("d"), bad.x)} {
			l = append(l, badBulletin{b, bad.e})
		}
	}
	return l
}

// P7.3, P7.4, R1, R2, R6, R8: what CheckBulletin says of bulletins that are not valid, and so Write and Take; and their texts are not read.
func TestBadBulletins(t *testing.T) {
	for k, bad := range badBulletins() {
		if e := warn.CheckBulletin(bad.b); e != bad.e {
			t.Error("CheckBulletin", k, bad.b, e, bad.e)
		}
		if s, e := warn.Write(bad.b); e != bad.e || s != "" {
			t.Error("Write", k, bad.b, s, e, bad.e)
		}
		board := warn.NewBoard()
		if e := board.Take(bad.b); e != bad.e || len(board.Regions()) != 0 {
			t.Error("Take", k, bad.b, e, bad.e)
		}
		if text := textOf(bad.b); len(text) <= api.MaxText {
			if b, e := warn.Read(text); e != api.ErrForm || !isZero(b) {
				t.Errorf("Read %d: %q %v %v", k, text, b, e)
			}
		}
	}
}

// P7.3: a valid bulletin need not be one that a centre could issue.
func TestAnyBulletin(t *testing.T) {
	for stage := range 4 {
		for reason := 1; reason <= 5; reason++ {
			for _, x := range goodStates() {
				for _, late := range []bool{false, true} {
					b := bulletin(warn.Item{Region: "r", Stage: stage, Reason: reason, Arrive: x.Arrive, Rise: x.Rise, Late: late})
					b.Number, b.Time = 77, 1000000000
					if e := warn.CheckBulletin(b); e != api.OK {
						t.Error(b, e)
					}
				}
			}
		}
	}
}

// P7.3, R7: at most 64 items.
func TestManyItems(t *testing.T) {
	var l []warn.Item
	for _, r := range regions(65) {
		l = append(l, item(r.Name))
	}
	checkText(t, bulletin(l[:64]...), textOf(bulletin(l[:64]...)))
	if e := warn.CheckBulletin(bulletin(l...)); e != api.ErrMany {
		t.Error(e)
	}
	if b, e := warn.Read(textOf(bulletin(l...))); e != api.ErrForm || !isZero(b) {
		t.Error(b, e)
	}
	if e := warn.CheckBulletin(bulletin(append(l[:63], item("r0"))...)); e != api.ErrHave {
		t.Error(e)
	}
}

// notRead checks that a text is not read, because of an error.
func notRead(t *testing.T, s string, want api.Errno) {
	t.Helper()
	if b, e := warn.Read(s); e != want || !isZero(b) {
		if len(s) > 200 {
			s = s[:200]
		}
		t.Errorf("%q: %v %v, want %v", s, b, e, want)
	}
}

// P7.3, R9: what has no last line that is `END` and the sum.
func TestReadSum(t *testing.T) {
	body, last, _ := strings.Cut(secondText, "END")
	last = "END" + last
	for _, s := range []string{
		"", "\n", " ", "END", "END\n", "END \n", "END 1", "END 0\n", "END 2\n", "END 01\n", "END 1 \n", " END 1\n", "END  1\n", "END 1\n\n", "\nEND 1\n", "end 1\n", "END\t1\n", "END 1\r\n", "END 65522\n", "1\n", "BULLETIN a b 1 0\n", "BULLETIN a b 1 0\nEND 39762", "BULLETIN a b 1 0\nEND 39761\n", "BULLETIN a b 1 0\nEND 39763\n",
		"BULLETIN a b 1 0\nEND 105283\n", "BULLETIN a b 1 0\nEND -25759\n", "BULLETIN a b 1 0\nEND +39762\n", "BULLETIN a b 1 0\nEND 039762\n", "BULLETIN a b 1 0\nEND 39762.0\n", "BULLETIN a b 1 0\nEND 39762\n\n", "BULLETIN a b 1 0\nEND 39762\n ", "BULLETIN a b 1 0 END 39762\n", "BULLETIN a b 1 0\nEND 39762 END 39762\n", "BULLETIN a b 1 0\r\nEND 39762\n", "BULLETIN a b 1 0END 39762\n", "BULLETIN a b 1 0\nEND39762\n", "BULLETIN a b 1 0\nend 39762\n", "BULLETIN a b 1 0\nEND 39762\nEND 39762\n",
		"BULLETIN a b 128982 0\nEND 00\n", "BULLETIN a b 128982 0\nEND -0\n", "BULLETIN a b 128982 0\nEND 65521\n", "BULLETIN a b 128982 0\nEND\n", "BULLETIN a b 128982 0\nEND \n",
		body, last, last + body, secondText[1:], secondText[:len(secondText)-1], secondText + "\n", secondText + " ", " " + secondText, "\n" + secondText, secondText + last, secondText + secondText, body + body + last, strings.ReplaceAll(secondText, "\n", "\r\n"), strings.ToLower(secondText),
	} {
		notRead(t, s, api.ErrSum)
	}
}

// P7.3, R9: texts with a right sum that are not those of a bulletin.
func TestReadForm(t *testing.T) {
	const head, bay = "BULLETIN west e1 2 4000000\n", "REGION bay ALERT LESS 5000000 7000000 0 60 TIMELY\n"
	whole := head + bay
	bodies := []string{
		// lines
		"", "\n", "\n\n", " \n", "\x00\n", "END 1\n", "END\n", bay, bay + head, head + head, whole + head, head + "\n", "\n" + head, head + "\n" + bay, whole + "\n", whole + " \n", withSum(""), withSum(whole), whole + bay, head + "END\n", strings.Repeat("\n", 60000),
		head[:len(head)-1] + " " + bay, strings.ReplaceAll(whole, "\n", "\r\n"), strings.ReplaceAll(whole, "\n", " \n"), strings.ReplaceAll(whole, "\nREGION", "\n REGION"), strings.ReplaceAll(whole, "\n", "\v") + "\n", strings.ReplaceAll(whole, "\n", "\x00") + "\n",
		// words and spaces
		strings.ReplaceAll(whole, " ", "  "), strings.ReplaceAll(whole, " ", "\t"), strings.ReplaceAll(whole, " ", "\u00a0"), strings.ReplaceAll(whole, " ", ""), strings.ReplaceAll(whole, " ", "_"), strings.ToLower(whole), strings.ToUpper(whole), " " + whole,
		"BULLETIN\n", "BULLETIN \n", "BULLETIN a\n", "BULLETIN a b\n", "BULLETIN a b 1\n", "BULLETIN a b 1 \n", "BULLETIN a b 1 0 \n", "BULLETIN a b 1 0 0\n", "BULLETIN a 1 0\n", "BULLETIN  b 1 0\n", "BULLETIN a b 1  0\n", "Bulletin a b 1 0\n", "BULLETI a b 1 0\n", "BULLETINS a b 1 0\n", "REGION a b 1 0\n", "a b 1 0\n", "END a b 1 0\n",
		head + "REGION\n", head + "REGION \n", head + "region bay ALERT LESS 5 7 0 60 TIMELY\n", head + "REGIONS bay ALERT LESS 5 7 0 60 TIMELY\n", head + "bay ALERT LESS 5 7 0 60 TIMELY\n", head + "BULLETIN bay ALERT LESS 5 7 0 60 TIMELY\n",
	}
	words := strings.Fields(whole)
	for i := range words {
		for _, word := range []string{
			"", "-", "x", "X", "0", "-1", "00", "01", "+1", "1.", "1e3", "1_0", "0x1", " 1", "1 ", "1,0", "\u0661", "-0", "+0", "99999999999999999999", "9223372036854775808", "-9223372036854775809", "1099511627776", "1099511627775", "NEVER", "never", "Never", "NONE", "none", "KEPT", "TIMELY", "LATE", "Late", "ALERTS", "FIRST LESS", "4", "2\n", "2\r", "\xff",
		} {
			changed := slices.Clone(words)
			changed[i] = word
			bodies = append(bodies, strings.Join(changed[:5], " ")+"\n"+strings.Join(changed[5:], " ")+"\n")
		}
		less := slices.Delete(slices.Clone(words), i, i+1)
		more := slices.Insert(slices.Clone(words), i, words[i])
		for _, l := range [][]string{less, more} {
			for _, n := range []int{4, 5, 6} {
				bodies = append(bodies, strings.Join(l[:n], " ")+"\n"+strings.Join(l[n:], " ")+"\n")
			}
		}
	}
	fair := 0
	for _, body := range bodies {
		s := withSum(body)
		if b, ok := meant(s); ok {
			fair++
			checkText(t, b, s)
			continue
		}
		notRead(t, s, api.ErrForm)
	}
	// Of the words that are put in the place of another one, these fit: 3 as each of the names, 1 as the number, 2 as the time, 1 as the stage, 1 as the reason, 2 and 1 as the ends of Arrive, 2 and 2 as those of Rise, 2 as the last one.
	if fair != 23 {
		t.Error("other texts than these are fair:", fair)
	}
}

// meant is the valid bulletin whose text a string is, if there is one: the formats of fmt find the only one that it can be.
func meant(s string) (warn.Bulletin, bool) {
	var b warn.Bulletin
	lines := strings.Split(s, "\n")
	if n, _ := fmt.Sscanf(lines[0], "BULLETIN %s %s %d %d", &b.Centre, &b.Event, &b.Number, &b.Time); n != 4 || len(lines) < 3 {
		return warn.Bulletin{}, false
	}
	for _, l := range lines[1 : len(lines)-2] {
		var x warn.Item
		var stage, reason, lo, hi, timing string
		if n, _ := fmt.Sscanf(l, "REGION %s %s %s %s %s %d %d %s", &x.Region, &stage, &reason, &lo, &hi, &x.Rise.Lo, &x.Rise.Hi, &timing); n != 8 {
			return warn.Bulletin{}, false
		}
		x.Stage = slices.Index([]string{"NONE", "NOTICE", "ALERT", "WARNING"}, stage)
		x.Reason = slices.Index([]string{"FIRST", "RAISED", "KEPT", "LESS", "PASSED"}, reason) + 1
		x.Arrive = sp(meantTime(lo), meantTime(hi))
		x.Late = timing == "LATE"
		b.Items = append(b.Items, x)
	}
	return b, isValid(b) && textOf(b) == s
}

func meantTime(word string) int {
	if word == "NEVER" {
		return 1 << 40
	}
	n, err := strconv.Atoi(word)
	if err != nil {
		return -1
	}
	return n
}

// isValid says by the chapter whether a bulletin is valid.
func isValid(b warn.Bulletin) bool {
	isName := func(s string) bool {
		return len(s) >= 1 && len(s) <= 12 && strings.Trim(s, "abcdefghijklmnopqrstuvwxyz0123456789_") == "" && strings.Trim(s[:1], "abcdefghijklmnopqrstuvwxyz") == ""
	}
	found := map[string]bool{}
	for _, x := range b.Items {
		if !isName(x.Region) || x.Stage < 0 || x.Stage > 3 || x.Reason < 1 || x.Reason > 5 || !isFair(state(x.Arrive, x.Rise)) {
			return false
		}
		found[x.Region] = true
	}
	return isName(b.Centre) && isName(b.Event) && b.Number >= 1 && b.Number <= 1000000 && b.Time >= 0 && b.Time <= 1000000000 && len(found) == len(b.Items) && len(found) <= 64
}

// P7.3, R7: the greatest text that is looked at, and one that is too long, whatever is in it.
func TestReadLong(t *testing.T) {
	notRead(t, strings.Repeat("\n", 65536), api.ErrSum)
	notRead(t, strings.Repeat("\n", 65537), api.ErrLong)
	notRead(t, strings.Repeat("x", 65536), api.ErrSum)
	notRead(t, secondText+strings.Repeat("\n", 65537-len(secondText)), api.ErrLong)
	notRead(t, strings.Repeat("REGION ", 1<<17), api.ErrLong)
	for _, line := range []string{"x", " ", "\n", "REGION ", "9", "REGION a NONE FIRST 0 0 0 0 LATE\n", "\xff"} {
		for _, length := range []int{65536, 65537} {
			// The sum has from one to five digits: some filling makes a text of this length.
			for more := range 6 {
				body := "BULLETIN a b 1 0\n" + strings.Repeat(line, 65000/len(line))
				body += strings.Repeat("y", length-len(body)-len("\nEND 12345\n")+more) + "\n"
				if s := withSum(body); len(s) == length {
					notRead(t, s, map[int]api.Errno{65536: api.ErrForm, 65537: api.ErrLong}[length])
				}
			}
		}
	}
}

// P7.8: a text of which any one byte is changed is not read.
func TestOneByteChanged(t *testing.T) {
	r := dice(3)
	texts := []string{secondText, "BULLETIN a b 1 0\nEND 39762\n", "BULLETIN a b 128982 0\nEND 0\n"}
	for range 15 {
		texts = append(texts, textOf(randomBulletin(r)))
	}
	for _, text := range texts {
		for i := range len(text) {
			changed := []byte(text)
			for b := range 256 {
				changed[i] = byte(b)
				if s := string(changed); s != text {
					notRead(t, s, api.ErrSum)
				}
			}
		}
	}
}

// checkReading checks that a text is either read as the bulletin whose text it is, or not at all.
func checkReading(t *testing.T, s string) bool {
	t.Helper()
	b, e := warn.Read(s)
	switch e {
	case api.OK:
		if !isValid(b) || textOf(b) != s {
			t.Errorf("%q is read as %v", s, b)
		}
		if again, e := warn.Write(b); e != api.OK || again != s {
			t.Errorf("%q is written as %q", s, again)
		}
	case api.ErrSum, api.ErrForm:
		if !isZero(b) {
			t.Errorf("%q: %v %v", s, b, e)
		}
	default:
		t.Errorf("%q: %v", s, e)
	}
	return e == api.OK
}

// P7.8: whatever is changed in the lines of a text, with the sum that they have then, Write of what is read is the text.
func TestWriteOfRead(t *testing.T) {
	read := 0
	check := func(lines string) {
		t.Helper()
		if checkReading(t, withSum(lines)) {
			read++
		}
	}
	for _, b := range []warn.Bulletin{second(), bulletin(), bulletin(item("r"), item("s"))} {
		lines, _, _ := strings.Cut(textOf(b), "END ")
		for i := range len(lines) {
			check(lines[:i] + lines[i+1:])
			for _, b := range []byte("019-.+ \n\r\tgzARY_\x00\xff") {
				check(lines[:i] + string([]byte{b}) + lines[i:])
				check(lines[:i] + string([]byte{b}) + lines[i+1:])
			}
		}
	}
	if read < 100 {
		t.Error("few of the texts were read:", read)
	}
}

func FuzzRead(f *testing.F) {
	for _, s := range []string{"", "BULLETIN a b 1 0\n", strings.TrimSuffix(secondText, "END 3863\n"), "BULLETIN a b 1 0\nREGION a NONE FIRST 0 NEVER 0 0 LATE\n"} {
		f.Add(s)
	}
	f.Fuzz(func(t *testing.T, s string) {
		if len(s) <= api.MaxText-10 {
			checkReading(t, s)
			checkReading(t, withSum(s))
		}
	})
}
