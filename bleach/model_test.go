package bleach_test

import (
	"fmt"
	"math/rand"
	"strings"
	"testing"

	"bleach/api"
	"bleach/bleach"
	"bleach/index"
)

// turnedRound does not go by Reverse: the model shares nothing with the program.
func turnedRound(s string) string {
	out := ""
	for _, c := range s {
		out = string("TGCAN"[strings.IndexRune("ACGTN", c)]) + out
	}
	return out
}

func backwards(s string) string {
	b := []byte(s)
	for i, c := range []byte(s) {
		b[len(b)-1-i] = c
	}
	return string(b)
}

func isTop(strand int) bool { return strand == api.OT || strand == api.CTOT }

func lying(letters string, strand int) string {
	if strand == api.OB || strand == api.CTOT {
		return turnedRound(letters)
	}
	return letters
}

// differing counts the positions whose pair, the read's letter and the reference's, is none of these.
func differing(s, ref, pairs string) int {
	n := 0
	for i := range len(s) {
		pair := [2]byte{s[i], ref[i]}
		if !strings.Contains(pairs, string(pair[:])) {
			n++
		}
	}
	return n
}

func threeLetterMismatches(s, ref string, strand int) int {
	if isTop(strand) {
		return differing(s, ref, "AA CC CT TC GG TT")
	}
	return differing(s, ref, "AA AG GA CC GG TT")
}

func realMismatches(s, ref string, strand int) int {
	if isTop(strand) {
		return differing(s, ref, "AA CC GG TT TC")
	}
	return differing(s, ref, "AA CC GG TT AG")
}

// modelCalls turns all of it round for a bottom strand: so C and what follows it is all that it knows of.
func modelCalls(s, contig string, at, strand int) string {
	if !isTop(strand) {
		return backwards(modelCalls(turnedRound(s), turnedRound(contig), len(contig)-at-len(s), api.OT))
	}
	out := ""
	for i, c := range s {
		follow := (contig + "NN")[at+i+1:][:2]
		kind := map[bool]string{true: "h", false: "u"}[!strings.Contains(follow, "N")]
		if follow[0] == 'G' {
			kind = "z"
		} else if follow[0] != 'N' && follow[1] == 'G' {
			kind = "x"
		}
		switch {
		case contig[at+i] == 'C' && c == 'C':
			out += strings.ToUpper(kind)
		case contig[at+i] == 'C' && c == 'T':
			out += kind
		default:
			out += "."
		}
	}
	return out
}

type stand struct {
	strand, contig, at, mismatches int
	letters                        string
}

// stands gives all candidates of a read.
func stands(refs []string, letters string, budget int) []stand {
	var all []stand
	for strand := api.OT; strand <= api.CTOB; strand++ {
		s := lying(letters, strand)
		for c, ref := range refs {
			for at := 0; at+len(s) <= len(ref); at++ {
				if threeLetterMismatches(s, ref[at:], strand) <= budget {
					all = append(all, stand{strand, c, at, realMismatches(s, ref[at:], strand), s})
				}
			}
		}
	}
	return all
}

// modelAlign is P7 by its words, for arguments that may be; the contigs are named as reference names them.
func modelAlign(refs []string, name, letters string, budget int) api.Record {
	all := stands(refs, letters, budget)
	if len(all) == 0 {
		return api.Record{Name: name, Verdict: api.Unmapped}
	}
	for _, c := range all {
		least := true
		for _, other := range all {
			least = least && (c == other || c.mismatches < other.mismatches)
		}
		if least {
			return api.Record{Name: name, Verdict: api.Aligned, Strand: c.strand, Contig: contigName(c.contig), At: c.at, Mismatches: c.mismatches, Letters: c.letters, Calls: modelCalls(c.letters, refs[c.contig], c.at, c.strand)}
		}
	}
	return api.Record{Name: name, Verdict: api.Ambiguous}
}

func contigName(n int) string { return fmt.Sprintf("c%d", n) }

func contigsOf(refs ...string) []api.Contig {
	var all []api.Contig
	for i, letters := range refs {
		all = append(all, api.Contig{Name: contigName(i), Letters: letters})
	}
	return all
}

// reference: contigs and the index of them.
type reference struct {
	refs    []string
	contigs []api.Contig
	x       *index.Index
}

func referenceOf(t *testing.T, refs ...string) reference {
	t.Helper()
	contigs := contigsOf(refs...)
	x, e := index.New(contigs)
	if e != api.OK {
		t.Fatalf("P5: New(%.80q) = %d", refs, e)
	}
	return reference{refs, contigs, x}
}

func (f reference) align(t *testing.T, letters string, budget int) api.Record {
	t.Helper()
	r, e := bleach.Align(f.contigs, f.x, api.Read{Name: "r", Letters: letters}, budget)
	if e != api.OK || r.Name != "r" {
		t.Fatalf("P7: Align of %.140s in %.80q with %d = %+v, %d", letters, f.refs, budget, r, e)
	}
	return r
}

func (f reference) check(t *testing.T, letters string, budget int, want api.Record) {
	t.Helper()
	want.Name = "r"
	if got := f.align(t, letters, budget); got != want {
		t.Fatalf("P7: Align of %.140s in %.80q with %d = %+v, want %+v", letters, f.refs, budget, got, want)
	}
}

// checkAll holds Align against the model, for every budget.
func (f reference) checkAll(t *testing.T, reads ...string) {
	t.Helper()
	for _, s := range reads {
		for budget := 0; budget <= api.MaxBudget; budget++ {
			f.check(t, s, budget, modelAlign(f.refs, "r", s, budget))
		}
	}
}

// words gives all texts of 1 to most of these letters.
func words(of string, most int) []string {
	all := []string{""}
	for i := 0; i < len(all); i++ {
		if len(all[i]) == most {
			break
		}
		for _, c := range of {
			all = append(all, all[i]+string(c))
		}
	}
	return all[1:]
}

func drawn(r *rand.Rand, of string, n int) string {
	b := make([]byte, n)
	for i := range b {
		b[i] = of[r.Intn(len(of))]
	}
	return string(b)
}
