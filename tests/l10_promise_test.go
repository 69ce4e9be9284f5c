package tests

import (
	"math/rand"
	"slices"
	"strings"
	"testing"
	"unsafe"

	"loop.example/g00713/impl"
)

// comesBack holds an instruction whose fields that are not written are 0 against
// what is read of its text.
func comesBack(t *testing.T, i impl.Ins) {
	t.Helper()
	s := impl.InsText(i)
	if got, ok := impl.ReadIns(s); ok != (len(s) <= maxInsText) || ok && got != i || !ok && got != (impl.Ins{}) {
		t.Errorf("%+v is %q, which is %+v, %v", i, s, got, ok)
	}
}

// progComesBack is for programs that are ProgOk.
func progComesBack(t *testing.T, p impl.Prog) {
	t.Helper()
	s := impl.ProgText(p)
	got, ok := impl.ReadProg(s)
	if !ok || !impl.SameProg(got, p) || !sameValue(got, p) || impl.ProgText(got) != s {
		t.Errorf("%+v is %q, which is %+v, %v", p, s, got, ok)
	}
}

// Promise 10, of instructions.
func TestInstructionsComeBack(t *testing.T) {
	numbers := []int{0, 1, 5, 6, -1, 12345678901, -123456789, maxInt, minInt}
	for _, x := range insShapes {
		eachFields(x.op, numbers, func(i impl.Ins) {
			for _, field := range "RABXN" {
				if !strings.ContainsRune(x.fields, field) && set(i, field, 0) != i {
					return
				}
			}
			comesBack(t, i)
		})
	}
	r := rand.New(rand.NewSource(40))
	for range 20000 {
		x := insShapes[r.Intn(len(insShapes))]
		var numbers []int
		for range x.fields {
			numbers = append(numbers, int(r.Uint64())>>r.Intn(64))
		}
		comesBack(t, x.insOf(numbers...))
	}
}

// Promise 10, of programs.
func TestProgramsComeBack(t *testing.T) {
	r := rand.New(rand.NewSource(50))
	progs := slices.Concat(walkedProgs(), smallProgs(100), storingProgs(20), []impl.Prog{sample(), crossed(), crossed(insFence)})
	for range 2000 {
		p := randomProg(r)
		for k := range p.Init {
			if r.Intn(2) == 0 {
				p.Init[k] = int(r.Uint64()) >> r.Intn(64)
			}
		}
		progs = append(progs, p)
	}
	for _, c := range dequeCases() {
		progs = append(progs, dequeProg(t, c))
	}
	for _, p := range progs {
		progComesBack(t, p)
		wantProgText(t, p, progByRule(p))
	}
}

// Promise 10, the other way round: what is read is written as it stood there.
func TestTextsComeBack(t *testing.T) {
	r := rand.New(rand.NewSource(60))
	ins, progs := 0, 0
	for range 20000 {
		var s string
		for range 1 + r.Intn(5) {
			s += pieces[r.Intn(len(pieces))]
		}
		if i, ok := impl.ReadIns(s); ok {
			ins++
			wantInsText(t, i, s)
		}
		lines := []string{"init 1 -1"}
		for range 1 + r.Intn(5) {
			lines = append(lines, randomLine(r))
		}
		if p, ok := impl.ReadProg(linesOf(lines...)); ok {
			progs++
			wantProgText(t, p, linesOf(lines...))
		}
	}
	if ins < 100 || progs < 500 {
		t.Errorf("only %d instructions and %d programs", ins, progs)
	}
}

// A program that has come back is done as it was.
func TestProgramsThatCameBackComeOutTheSame(t *testing.T) {
	for _, p := range append(walkedProgs(), smallProgs(40)...) {
		q, _ := impl.ReadProg(impl.ProgText(p))
		for _, kind := range kinds {
			want, _ := impl.Outcomes(p, kind, maxStates)
			wantOutcomes(t, q, kind, maxStates, want...)
		}
		wantSpots(t, q, impl.Spots(p)...)
	}
}

// textCase is what the functions about texts are asked.
type textCase struct {
	P impl.Prog
	S string
}

// textAnswer is what they answer.
type textAnswer struct {
	Texts  []string
	Ins    []impl.Ins
	InsOk  []bool
	Prog   impl.Prog
	ProgOk bool
	Report string
}

func textCases() []textCase {
	var out []textCase
	for k, p := range slices.Concat(answeredProgs(), badProgs(), []impl.Prog{sample()}) {
		out = append(out, textCase{p, progByRule(p)})
		if texts := noProgTexts(); k < len(texts) {
			out = append(out, textCase{p, texts[k]})
		}
	}
	return out
}

func textAnswers(c textCase) textAnswer {
	a := textAnswer{Texts: []string{impl.ProgText(c.P)}, Report: impl.Report(c.S, 400)}
	for _, thread := range c.P.T {
		for _, i := range thread.L {
			a.Texts = append(a.Texts, impl.InsText(i))
		}
	}
	for line := range strings.SplitSeq(c.S, "\n") {
		i, ok := impl.ReadIns(line)
		a.Ins, a.InsOk = append(a.Ins, i), append(a.InsOk, ok)
	}
	a.Prog, a.ProgOk = impl.ReadProg(c.S)
	return a
}

func TestTextsAgain(t *testing.T) {
	wantSameAgain(t, textCases(), textAnswers)
}

func TestTextsAtOnce(t *testing.T) {
	wantSameAtOnce(t, textCases(), textAnswers)
}

// textSpan is the memory of a text.
func textSpan(s string) span {
	from := uintptr(unsafe.Pointer(unsafe.StringData(s)))
	return span{from, from + uintptr(len(s))}
}

func textsShare(a string, b string) bool {
	x, y := textSpan(a), textSpan(b)
	return x.from < y.to && y.from < x.to
}

func wantTextsNewMemory(t *testing.T, c textCase) {
	t.Helper()
	old := deepCopy(c.P)
	bytes := []byte(c.S)
	s := unsafe.String(unsafe.SliceData(bytes), len(bytes))
	asked := textCase{c.P, s}
	a, again := textAnswers(asked), textAnswers(asked)
	if sharesMemory(a, again, c.P) || sharesMemory(a.Prog, again.Prog) {
		t.Fatalf("%+v: %+v shares memory", c, a)
	}
	if textsShare(a.Report, s) {
		t.Fatalf("what is said of %q shares memory with it: %q", s, a.Report)
	}
	if string(bytes) != c.S || !wholeSame(c.P, old) {
		t.Fatalf("%+v and %q were changed to %+v and %q", old, c.S, c.P, bytes)
	}
	// What is done to one answer, or to an argument behind that, is not seen in others.
	spoilt(a.Prog.Init, 99)
	for _, thread := range a.Prog.T {
		spoilt(thread.L, insFence)
	}
	spoilt(a.Prog.T, impl.Thread{})
	if after := textAnswers(asked); !sameValue(after, again) {
		t.Fatalf("%+v: %+v and then %+v", c, again, after)
	}
	kept := strings.Clone(again.Report)
	for k := range bytes {
		bytes[k] = '!'
	}
	if again.Report != kept {
		t.Fatalf("what was said of %q is now %q", c.S, again.Report)
	}
}

func TestTextsAreNewMemory(t *testing.T) {
	for _, c := range textCases() {
		wantTextsNewMemory(t, c)
		wantTextsNewMemory(t, textCase{withRoom(c.P), c.S})
	}
}
