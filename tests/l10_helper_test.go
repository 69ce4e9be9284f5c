package tests

import (
	"fmt"
	"regexp"
	"strconv"
	"strings"
	"testing"

	"loop.example/g00713/impl"
)

// maxInsText is the most bytes of a text that ReadIns takes.
const maxInsText = 60

// insShape is what the text of an Op looks like, with # for each number, and
// the fields whose numbers these are.
type insShape struct {
	op     int
	text   string
	fields string
}

var insShapes = []insShape{
	{impl.InSet, "r# = #", "RN"},
	{impl.InMov, "r# = r#", "RA"},
	{impl.InAdd, "r# = r# + r#", "RAB"},
	{impl.InSub, "r# = r# - r#", "RAB"},
	{impl.InLess, "r# = r# < r#", "RAB"},
	{impl.InSame, "r# = r# == r#", "RAB"},
	{impl.InLoad, "r# = [#]", "RX"},
	{impl.InStore, "[#] = r#", "XA"},
	{impl.InLoadAt, "r# = [# + r# % #]", "RXAN"},
	{impl.InStoreAt, "[# + r# % #] = r#", "XANB"},
	{impl.InCas, "r# = cas [#] r# r#", "RXAB"},
	{impl.InFence, "fence", ""},
	{impl.InZero, "if r# == 0 goto #", "AN"},
	{impl.InJump, "goto #", "N"},
}

// textOf is the shape's text with these words for its numbers.
func (x insShape) textOf(words ...string) string {
	text := ""
	for k, part := range strings.Split(x.text, "#") {
		if k > 0 {
			text += words[k-1]
		}
		text += part
	}
	return text
}

// insOf is the instruction with these numbers in the shape's fields.
func (x insShape) insOf(numbers ...int) impl.Ins {
	i := impl.Ins{Op: x.op}
	for k, field := range x.fields {
		i = set(i, field, numbers[k])
	}
	return i
}

// insByRule is the text that the document says, Op by Op.
func insByRule(i impl.Ins) string {
	switch i.Op {
	case impl.InSet:
		return fmt.Sprintf("r%d = %d", i.R, i.N)
	case impl.InMov:
		return fmt.Sprintf("r%d = r%d", i.R, i.A)
	case impl.InAdd:
		return fmt.Sprintf("r%d = r%d + r%d", i.R, i.A, i.B)
	case impl.InSub:
		return fmt.Sprintf("r%d = r%d - r%d", i.R, i.A, i.B)
	case impl.InLess:
		return fmt.Sprintf("r%d = r%d < r%d", i.R, i.A, i.B)
	case impl.InSame:
		return fmt.Sprintf("r%d = r%d == r%d", i.R, i.A, i.B)
	case impl.InLoad:
		return fmt.Sprintf("r%d = [%d]", i.R, i.X)
	case impl.InStore:
		return fmt.Sprintf("[%d] = r%d", i.X, i.A)
	case impl.InLoadAt:
		return fmt.Sprintf("r%d = [%d + r%d %% %d]", i.R, i.X, i.A, i.N)
	case impl.InStoreAt:
		return fmt.Sprintf("[%d + r%d %% %d] = r%d", i.X, i.A, i.N, i.B)
	case impl.InCas:
		return fmt.Sprintf("r%d = cas [%d] r%d r%d", i.R, i.X, i.A, i.B)
	case impl.InFence:
		return "fence"
	case impl.InZero:
		return fmt.Sprintf("if r%d == 0 goto %d", i.A, i.N)
	case impl.InJump:
		return fmt.Sprintf("goto %d", i.N)
	}
	return ""
}

const numberPattern = `(0|-?[1-9][0-9]*)`

// insPatterns are the shapes as patterns of whole texts.
var insPatterns = patternsOf(insShapes)

var initPattern = regexp.MustCompile(`\Ainit( ` + numberPattern + `)+\z`)

func patternsOf(shapes []insShape) []*regexp.Regexp {
	var out []*regexp.Regexp
	for _, x := range shapes {
		pattern := strings.ReplaceAll(regexp.QuoteMeta(x.text), "#", numberPattern)
		out = append(out, regexp.MustCompile(`\A`+pattern+`\z`))
	}
	return out
}

func intsOf(words []string) ([]int, bool) {
	var out []int
	for _, word := range words {
		n, err := strconv.ParseInt(word, 10, 64)
		if err != nil {
			return nil, false
		}
		out = append(out, int(n))
	}
	return out, true
}

// readInsByRule is what ReadIns is to answer.
func readInsByRule(s string) (impl.Ins, bool) {
	if len(s) > maxInsText {
		return impl.Ins{}, false
	}
	for k, pattern := range insPatterns {
		if match := pattern.FindStringSubmatch(s); match != nil {
			if numbers, ok := intsOf(match[1:]); ok {
				return insShapes[k].insOf(numbers...), true
			}
		}
	}
	return impl.Ins{}, false
}

// progByRule is the text of a program, be it ProgOk or not.
func progByRule(p impl.Prog) string {
	var b strings.Builder
	b.WriteString("init")
	for _, n := range p.Init {
		fmt.Fprintf(&b, " %d", n)
	}
	b.WriteString("\n")
	for _, t := range p.T {
		b.WriteString("thread\n")
		for _, i := range t.L {
			b.WriteString(insByRule(i) + "\n")
		}
	}
	return b.String()
}

// readProgByRule is what ReadProg is to answer.
func readProgByRule(s string) (impl.Prog, bool) {
	lines := strings.Split(s, "\n")
	if lines[len(lines)-1] != "" || !initPattern.MatchString(lines[0]) {
		return impl.Prog{}, false
	}
	cells, ok := intsOf(strings.Fields(lines[0])[1:])
	if !ok {
		return impl.Prog{}, false
	}
	p := progOf(cells)
	for _, line := range lines[1 : len(lines)-1] {
		if line == "thread" {
			p.T = append(p.T, row())
			continue
		}
		i, ok := readInsByRule(line)
		if !ok || len(p.T) == 0 {
			return impl.Prog{}, false
		}
		last := &p.T[len(p.T)-1].L
		*last = append(*last, i)
	}
	if !impl.ProgOk(p) {
		return impl.Prog{}, false
	}
	return p, true
}

// reportByRule is what Report is to answer.
func reportByRule(s string, most int) string {
	p, ok := readProgByRule(s)
	if !ok {
		return "bad\n"
	}
	out := ""
	for k, word := range []string{"one", "buffers", "views"} {
		if l, ok := impl.Outcomes(p, kinds[k], most); ok {
			out += fmt.Sprintln(word, len(l))
		} else {
			out += fmt.Sprintln(word, "?")
		}
	}
	robust, told := impl.Robust(p, most)
	if !told {
		return out + "unknown\n"
	}
	if robust {
		return out + "robust\n"
	}
	spots, found := impl.LeastFences(p, most)
	if !found {
		return out + "fragile\nfences ?\n"
	}
	out += "fragile\nfences"
	for _, s := range spots {
		out += fmt.Sprintf(" %d:%d", s.T, s.At)
	}
	return out + "\n"
}

func wantInsText(t *testing.T, i impl.Ins, want string) {
	t.Helper()
	if got := impl.InsText(i); got != want {
		t.Errorf("the text of %+v is %q, want %q", i, got, want)
	}
}

func wantReadIns(t *testing.T, s string, want impl.Ins) {
	t.Helper()
	if got, ok := impl.ReadIns(s); !ok || got != want {
		t.Errorf("%q is %+v, %v, want %+v", s, got, ok, want)
	}
}

func refusesIns(t *testing.T, s string) {
	t.Helper()
	if got, ok := impl.ReadIns(s); ok || got != (impl.Ins{}) {
		t.Errorf("%q is %+v, %v", s, got, ok)
	}
}

// checkIns holds what ReadIns answers against the rule, and tells whether it is
// an instruction.
func checkIns(t *testing.T, s string) bool {
	t.Helper()
	want, ok := readInsByRule(s)
	if ok {
		wantReadIns(t, s, want)
		wantInsText(t, want, s)
	} else {
		refusesIns(t, s)
	}
	return ok
}

func wantProgText(t *testing.T, p impl.Prog, want string) {
	t.Helper()
	if got := impl.ProgText(p); got != want {
		t.Errorf("the text of %+v is %q, want %q", p, got, want)
	}
}

func wantReadProg(t *testing.T, s string, want impl.Prog) {
	t.Helper()
	if got, ok := impl.ReadProg(s); !ok || !sameValue(got, want) {
		t.Errorf("%q is %+v, %v, want %+v", s, got, ok, want)
	}
}

func refusesProg(t *testing.T, s string) {
	t.Helper()
	if got, ok := impl.ReadProg(s); ok || !sameValue(got, impl.Prog{}) {
		t.Errorf("%q is %+v, %v", s, got, ok)
	}
}

// checkProg holds what ReadProg answers against the rule, and tells whether it
// is a program.
func checkProg(t *testing.T, s string) bool {
	t.Helper()
	want, ok := readProgByRule(s)
	if ok {
		wantReadProg(t, s, want)
		wantProgText(t, want, s)
	} else {
		refusesProg(t, s)
	}
	return ok
}

func wantReport(t *testing.T, s string, most int, want string) {
	t.Helper()
	if got := impl.Report(s, most); got != want {
		t.Errorf("%d states at most: of %q is said %q, want %q", most, s, got, want)
	}
}

// linesOf are lines with a byte 10 behind each.
func linesOf(l ...string) string {
	out := ""
	for _, line := range l {
		out += line + "\n"
	}
	return out
}

// oneByteAway are all texts that come of one in which a byte is left out, put in,
// or another one.
func oneByteAway(s string, bytes string) []string {
	var out []string
	for at := range len(s) + 1 {
		for k := range len(bytes) {
			out = append(out, s[:at]+bytes[k:k+1]+s[at:])
			if at < len(s) {
				out = append(out, s[:at]+bytes[k:k+1]+s[at+1:])
			}
		}
		if at < len(s) {
			out = append(out, s[:at]+s[at+1:])
		}
	}
	return out
}

// allBytes is a text of all bytes.
func allBytes() string {
	var out []byte
	for b := range 256 {
		out = append(out, byte(b))
	}
	return string(out)
}

// textBytes are those that stand in texts, and some more.
const textBytes = "rR0159-+ =<[]%casfenigotodhXA_.\t\n\r\x00\xff"
