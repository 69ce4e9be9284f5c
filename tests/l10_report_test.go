package tests

import (
	"slices"
	"strings"
	"testing"

	"loop.example/g00713/impl"
)

func TestReportWrittenOut(t *testing.T) {
	init := []int{0, 0, 0}
	for _, x := range []struct {
		p    impl.Prog
		most int
		want string
	}{
		{progOf([]int{3}, row()), 1, "one 1\nbuffers 1\nviews 1\nrobust\n"},
		{progOf([]int{3}, row(), row(), row()), maxStates, "one 1\nbuffers 1\nviews 1\nrobust\n"},
		{progOf([]int{3}, row(insLoad(0, 0))), 2, "one 1\nbuffers 1\nviews 1\nrobust\n"},
		{progOf([]int{3}, row(insLoad(0, 0))), 1, "one ?\nbuffers ?\nviews ?\nunknown\n"},
		{crossed(), maxStates, "one 3\nbuffers 4\nviews 4\nfragile\nfences 0:2 1:2\n"},
		{crossed(insFence), maxStates, "one 3\nbuffers 3\nviews 3\nrobust\n"},
		{rounds(2), maxStates, "one 9\nbuffers 16\nviews 16\nfragile\nfences 0:2 0:4 1:2 1:4\n"},
		{crossedWith(slices.Repeat(ins(insSet(5, 0)), 8), nil), maxStates, "one 3\nbuffers 4\nviews 4\nfragile\nfences 0:10 1:2\n"},
		// One thread alone is to wait, be it the first or the last one.
		{progOf(init, row(wanting()...), row(harmless()...)), maxStates, "one 3\nbuffers 4\nviews 4\nfragile\nfences 0:2\n"},
		{progOf(init, row(harmless()...), row(), row(wanting()...)), maxStates, "one 3\nbuffers 4\nviews 4\nfragile\nfences 2:2\n"},
		// More spots than are looked at.
		{crossedWith(ownLoads(0, maxSpots-2), nil), maxStates, "one 3\nbuffers 4\nviews 4\nfragile\nfences 0:2 1:2\n"},
		{crossedWith(ownLoads(0, maxSpots-1), nil), maxStates, "one 3\nbuffers 4\nviews 4\nfragile\nfences ?\n"},
		// No place for the fence that is wanted.
		{progOf(init, row(padded(wanting(), impl.MaxIns)...), row(harmless()...)), maxStates, "one 3\nbuffers 4\nviews 4\nfragile\nfences ?\n"},
	} {
		wantReport(t, progByRule(x.p), x.most, x.want)
	}
}

// What is told by some kinds is told, be there others that tell nothing.
func TestReportAtMost(t *testing.T) {
	all := "one 3\nbuffers 4\nviews 4\nfragile\nfences 0:2 1:2\n"
	for most := 1; most <= 60; most++ {
		want := all
		switch {
		case most < 15:
			want = "one ?\nbuffers ?\nviews ?\nunknown\n"
		case most < 16:
			want = "one 3\nbuffers ?\nviews ?\nunknown\n"
		case most < 36:
			want = "one 3\nbuffers ?\nviews 4\nunknown\n"
		}
		wantReport(t, crossedText, most, want)
	}
	for _, most := range append([]int{0, -2, maxStates + 1, maxStates + 2}, farInts...) {
		wantReport(t, crossedText, most, "one ?\nbuffers ?\nviews ?\nunknown\n")
		wantReport(t, "init 0\nthread\n", most, "one ?\nbuffers ?\nviews ?\nunknown\n")
	}
	wantReport(t, crossedText, maxStates, all)
	// With a fence at some spot there are more states than without.
	p := progOf([]int{0, 0, 0}, row(harmless()...), row(wanting()...))
	n, more := statesFenced(t, p), statesFenced(t, p, spot(0, 7))
	for most := n; most <= more+1; most++ {
		want := "one 3\nbuffers 4\nviews 4\nfragile\nfences ?\n"
		if most >= more {
			want = "one 3\nbuffers 4\nviews 4\nfragile\nfences 1:2\n"
		}
		wantReport(t, progByRule(p), most, want)
	}
}

func TestReportAtTheLimit(t *testing.T) {
	just, over := manyStates()
	wantReport(t, progByRule(just), maxStates, "one 1\nbuffers 1\nviews 1\nrobust\n")
	wantReport(t, progByRule(just), maxStates-1, "one ?\nbuffers ?\nviews ?\nunknown\n")
	wantReport(t, progByRule(just), maxStates+1, "one ?\nbuffers ?\nviews ?\nunknown\n")
	wantReport(t, progByRule(over), maxStates, "one ?\nbuffers ?\nviews ?\nunknown\n")
}

// noProgTexts are texts that ReadProg refuses.
func noProgTexts() []string {
	out := []string{"", "\n", "bad\n", "init 0\n", "init\nthread\n", "init 0\nfence\n", "init 0\nthread\n[1] = r1\n", "init 0\nthread\ngoto 0\n", "init 0\nthread\n\n", "one 1\nbuffers 1\nviews 1\nrobust\n"}
	out = append(out, strings.TrimSuffix(crossedText, "\n"), crossedText+"\n", crossedText+crossedText, " "+crossedText, "init 0 0 0 0 0 0 0\nthread\n", "init 0\nthread\nthread\nthread\nthread\n", allBytes())
	for _, p := range badProgs() {
		out = append(out, progByRule(p))
	}
	return out
}

func TestReportNoProg(t *testing.T) {
	for _, s := range noProgTexts() {
		for _, most := range append([]int{0, 1, 100, maxStates, maxStates + 1}, farInts...) {
			wantReport(t, s, most, "bad\n")
		}
		refusesProg(t, s)
	}
}

func TestReportAgainstTheRule(t *testing.T) {
	said := map[string]int{}
	for _, p := range slices.Concat(walkedProgs(), smallProgs(40), storingProgs(40)) {
		n := statesWanted(t, p)
		s := progByRule(p)
		for _, most := range []int{n - 1, n, n + 3, maxStates} {
			want := reportByRule(s, most)
			wantReport(t, s, most, want)
			for _, word := range []string{"one ?", "buffers ?", "views ?", "robust", "fragile", "unknown", "fences ?", "fences 0", "fences 1"} {
				if strings.Contains(want, word) {
					said[word]++
				}
			}
			if strings.Contains(want, "views ?") && !strings.Contains(want, "unknown") {
				said["views alone ?"]++
			}
		}
	}
	if len(said) != 10 {
		t.Errorf("so often is said: %v", said)
	}
}
