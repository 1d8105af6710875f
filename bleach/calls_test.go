package bleach_test

import (
	"strings"
	"testing"

	"bleach/api"
)

// kinds: the call of a C that was turned, by the two letters that follow it; a _ is where the contig has none.
var kinds = map[string]string{
	"z": "GA GC GG GT GN G_",
	"x": "AG CG TG",
	"h": "AA AC AT CA CC CT TA TC TT",
	"u": "NA NC NG NT NN N_ AN CN TN A_ C_ T_ __",
}

func kindsByLetters(t *testing.T) map[string]string {
	t.Helper()
	all := map[string]string{}
	for kind, follows := range kinds {
		for _, follow := range strings.Fields(follows) {
			all[follow] = kind
		}
	}
	if len(all) != 25+5+1 {
		t.Fatalf("%d pairs of letters that may follow, want 31", len(all))
	}
	return all
}

// checkCall: of a C with these letters behind it, which a read has as letter. The letters ahead of it, one of them turned, tell the place and the strand.
func checkCall(t *testing.T, follow, letter, want string) {
	t.Helper()
	follow = strings.TrimRight(follow, "_")
	contig := "TTCGATTAGACTA" + "C" + follow
	piece := "TTCGATTAGATTA" + letter
	calls := "..Z.......h.." + want
	budget := 1
	f := referenceOf(t, contig)
	n := map[string]int{"C": 0, "T": 0, "A": 1, "G": 1, "N": 1}[letter]
	f.check(t, piece, budget, at(api.OT, 0, n, piece, calls))
	f.check(t, turnedRound(piece), budget, at(api.CTOT, 0, n, piece, calls))

	f = referenceOf(t, turnedRound(contig))
	f.check(t, piece, budget, at(api.OB, len(follow), n, turnedRound(piece), backwards(calls)))
	f.check(t, turnedRound(piece), budget, at(api.CTOB, len(follow), n, turnedRound(piece), backwards(calls)))
}

// The C is the read's last letter: what follows it is the contig's alone, and no read has to have it.
func TestCallsByWhatFollows(t *testing.T) {
	for follow, kind := range kindsByLetters(t) {
		checkCall(t, follow, "C", strings.ToUpper(kind))
		checkCall(t, follow, "T", kind)
		checkCall(t, follow, "A", ".")
		checkCall(t, follow, "G", ".")
		checkCall(t, follow, "N", ".")
	}
}

// What follows is asked of the contig even where the read has other letters there.
func TestCallsGoByTheContig(t *testing.T) {
	f := referenceOf(t, "ATTACGATTAGCAGTATTGGTA")
	f.check(t, "ATTATAATTAGTACTATTGGTA", 2, at(api.OT, 0, 2, "ATTATAATTAGTACTATTGGTA", "....z......x.........."))
	f = referenceOf(t, "ATTACATTTAGTATTGGTA")
	f.check(t, "ATTATGTTTAGTATTGGTA", 1, at(api.OT, 0, 1, "ATTATGTTTAGTATTGGTA", "....h.............."))
}

// A contig's letters do not follow those of the contig ahead of it.
func TestCallsAtTheEndsOfContigs(t *testing.T) {
	f := referenceOf(t, "CATTAC", "GGCATTAA")
	f.check(t, "TATTAC", 0, at(api.OT, 0, 0, "TATTAC", "h....U"))
	f.check(t, "CATTAT", 0, at(api.OT, 0, 0, "CATTAT", "H....u"))
	want := api.Record{Verdict: api.Aligned, Strand: api.CTOB, Contig: "c1", Letters: "AGCATTAA", Calls: "uU......"}
	f.check(t, "AGCATTAA", 0, want)
	want.Strand = api.OB
	f.check(t, turnedRound("AGCATTAA"), 0, want)
	referenceOf(t, "C").check(t, "T", 0, at(api.OT, 0, 0, "T", "u"))
	referenceOf(t, "G").check(t, "A", 0, at(api.CTOB, 0, 0, "A", "u"))
	referenceOf(t, "GG").check(t, "AA", 0, at(api.CTOB, 0, 0, "AA", "uu"))
	referenceOf(t, "CAG").check(t, "TAG", 0, at(api.OT, 0, 0, "TAG", "x.."))
}

// No other letter of the reference has a call, whatever the read has there.
func TestCallsOfOtherLetters(t *testing.T) {
	f := referenceOf(t, "AGTNAGTTGAAGATAGTTAGGATTC")
	f.check(t, "AGCTAGTTGCAGATAGTTAGGATTT", 3, at(api.OT, 0, 3, "AGCTAGTTGCAGATAGTTAGGATTT", strings.Repeat(".", 24)+"u"))
	for _, c := range words("ACGTN", 1) {
		for _, ref := range words("AGTN", 1) {
			s := "TTCGATTAGATTA" + c
			const calls = "h.Z.......h..." // two are turned: an A for a G, that the bottom would allow, does not make up for them
			contig := "CTCGATTAGACTA" + ref
			n := realMismatches(c, ref, api.OT)
			referenceOf(t, contig).check(t, s, 1, at(api.OT, 0, n, s, calls))
			referenceOf(t, contig).check(t, turnedRound(s), 1, at(api.CTOT, 0, n, s, calls))
			referenceOf(t, turnedRound(contig)).check(t, s, 1, at(api.OB, 0, n, turnedRound(s), backwards(calls)))
			referenceOf(t, turnedRound(contig)).check(t, turnedRound(s), 1, at(api.CTOB, 0, n, turnedRound(s), backwards(calls)))
		}
	}
}
