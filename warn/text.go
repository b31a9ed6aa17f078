package warn

import (
	"slices"
	"strconv"
	"strings"

	"tidewall/api"
)

// The words of a text.
const (
	headWord   = "BULLETIN"
	itemWord   = "REGION"
	endWord    = "END"
	neverWord  = "NEVER"
	lateWord   = "LATE"
	timelyWord = "TIMELY"
)

var (
	stageWords  = [...]string{None: "NONE", Notice: "NOTICE", Alert: "ALERT", Warning: "WARNING"}
	reasonWords = [...]string{First: "FIRST", Raised: "RAISED", Kept: "KEPT", Less: "LESS", Passed: "PASSED"}
)

// The factor and the modulus of a sum have no common divisor, so that a byte that is changed always changes the sum.
const (
	sumFactor  = 31
	sumModulus = 65521
)

// Write returns a bulletin as a text.
func Write(b Bulletin) (string, api.Errno) {
	if e := CheckBulletin(b); e != api.OK {
		return "", e
	}
	body := line(headWord, b.Centre, b.Event, strconv.Itoa(b.Number), strconv.Itoa(b.Time))
	for _, x := range b.Items {
		body += itemLine(x)
	}
	return body + endLine(body), api.OK
}

// Read returns the bulletin of a text.
func Read(s string) (Bulletin, api.Errno) {
	if len(s) > api.MaxText {
		return Bulletin{}, api.ErrLong
	}
	// The body is all lines but the last one, whether or not that one is ended.
	body := s[:strings.LastIndex(strings.TrimSuffix(s, "\n"), "\n")+1]
	if s != body+endLine(body) {
		return Bulletin{}, api.ErrSum
	}
	b, ok := parse(body)
	if !ok {
		return Bulletin{}, api.ErrForm
	}
	// A bulletin has a single text: to write it again finds whatever a reader lets pass, be it a sign, a zero, a space or a word too many.
	if text, e := Write(b); e != api.OK || text != s {
		return Bulletin{}, api.ErrForm
	}
	return b, api.OK
}

func line(words ...string) string {
	return strings.Join(words, " ") + "\n"
}

func itemLine(x Item) string {
	timing := timelyWord
	if x.Late {
		timing = lateWord
	}
	return line(itemWord, x.Region, stageWords[x.Stage], reasonWords[x.Reason],
		timeWord(x.Arrive.Lo), timeWord(x.Arrive.Hi), strconv.Itoa(x.Rise.Lo), strconv.Itoa(x.Rise.Hi), timing)
}

func timeWord(t int) string {
	if t == api.Never {
		return neverWord
	}
	return strconv.Itoa(t)
}

// endLine returns the line that ends a text, behind all others.
func endLine(body string) string {
	sum := 1
	for i := range len(body) {
		sum = (sum*sumFactor + int(body[i])) % sumModulus
	}
	return line(endWord, strconv.Itoa(sum))
}

// parse takes the words of all lines but the last one for a bulletin, whether or not it is valid.
func parse(body string) (b Bulletin, ok bool) {
	defer func() {
		if recover() != nil {
			b, ok = Bulletin{}, false
		}
	}()
	head, rest, _ := strings.Cut(body, "\n")
	b = readerOf(head).head()
	for item := range strings.Lines(rest) {
		b.Items = append(b.Items, readerOf(item).item())
	}
	return b, true
}

// reader has the words of a line that are still to be read. Its methods panic if the line is wrong.
type reader struct {
	words []string
}

func readerOf(line string) *reader {
	return &reader{strings.Fields(line)}
}

// head reads the first line of a text.
func (r *reader) head() Bulletin {
	r.oneOf(headWord)
	return Bulletin{Centre: r.word(), Event: r.word(), Number: r.number(), Time: r.number()}
}

// item reads the line of an item.
func (r *reader) item() Item {
	r.oneOf(itemWord)
	// Copies, as the tables themselves are only read.
	stages, reasons := stageWords, reasonWords
	return Item{
		Region: r.word(),
		Stage:  r.oneOf(stages[:]...),
		Reason: r.oneOf(reasons[:]...),
		Arrive: api.Span{Lo: r.time(), Hi: r.time()},
		Rise:   api.Span{Lo: r.number(), Hi: r.number()},
		Late:   r.oneOf(timelyWord, lateWord) == 1,
	}
}

func (r *reader) word() string {
	if len(r.words) == 0 {
		panic(api.ErrForm)
	}
	word := r.words[0]
	r.words = r.words[1:]
	return word
}

// oneOf reads one of some words, and returns its index.
func (r *reader) oneOf(words ...string) int {
	i := slices.Index(words, r.word())
	if i < 0 {
		panic(api.ErrForm)
	}
	return i
}

func (r *reader) number() int {
	return numberOf(r.word())
}

func (r *reader) time() int {
	word := r.word()
	if word == neverWord {
		return api.Never
	}
	return numberOf(word)
}

func numberOf(word string) int {
	n, err := strconv.Atoi(word)
	if err != nil {
		panic(api.ErrForm)
	}
	return n
}
