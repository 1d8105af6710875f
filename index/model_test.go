package index_test

import (
	"slices"
	"testing"

	"bleach/api"
	"bleach/index"
)

// alike: what the treatment may have turned into one another is told by pairs, not by converting as the program does.
func alike(a, b byte, strand int) bool {
	turned := "CT"
	if strand == api.OB || strand == api.CTOB {
		turned = "GA"
	}
	switch {
	case a == 'N' || b == 'N':
		return false
	case a == turned[0] || a == turned[1]:
		return b == turned[0] || b == turned[1]
	}
	return a == b
}

func mismatches(s, ref string, strand int) int {
	n := 0
	for i := range len(s) {
		if !alike(s[i], ref[i], strand) {
			n++
		}
	}
	return n
}

// modelFind is P6 by its words, for arguments that may be.
func modelFind(contigs []string, s string, strand, budget int) []api.Place {
	var all []api.Place
	for c, ref := range contigs {
		for at := 0; at+len(s) <= len(ref); at++ {
			if mismatches(s, ref[at:at+len(s)], strand) <= budget {
				all = append(all, api.Place{Contig: c, At: at})
			}
		}
	}
	return all
}

func contigsOf(letters ...string) []api.Contig {
	var all []api.Contig
	for _, l := range letters {
		all = append(all, api.Contig{Letters: l})
	}
	return all
}

func made(t *testing.T, letters ...string) *index.Index {
	t.Helper()
	x, e := index.New(contigsOf(letters...))
	if x == nil || e != api.OK {
		t.Fatalf("P5: New(%.80q) = %v, %d, want an index", letters, x, e)
	}
	return x
}

func checkFind(t *testing.T, x *index.Index, s string, strand, budget int, want []api.Place) {
	t.Helper()
	got, e := x.Find(s, strand, budget)
	if e != api.OK || !slices.Equal(got, want) {
		t.Fatalf("P6: Find(%.80q, %d, %d) = %.200v, %d, want %.200v", s, strand, budget, got, e, want)
	}
}

// checkAll holds Find against the model, for every strand and every budget.
func checkAll(t *testing.T, contigs []string, reads ...string) {
	t.Helper()
	x := made(t, contigs...)
	for _, s := range reads {
		for strand := api.OT; strand <= api.CTOB; strand++ {
			for budget := 0; budget <= api.MaxBudget; budget++ {
				checkFind(t, x, s, strand, budget, modelFind(contigs, s, strand, budget))
			}
		}
	}
}

// words gives all texts of 1 to most of these letters.
func words(of string, most int) []string {
	all := []string{""}
	for i := 0; i < len(all); i++ {
		if len(all[i]) == most {
			break
		}
		for _, c := range of {
			all = append(all, all[i]+string(c))
		}
	}
	return all[1:]
}
