package bleach_test

import (
	"math/rand"
	"testing"

	"bleach/api"
)

// turnings gives a piece with its cytosines of a strand turned in each way there is, as it lies along the reference.
func turnings(piece string, strand int) []string {
	from, to := byte('C'), "T"
	if !isTop(strand) {
		from, to = 'G', "A"
	}
	all := []string{""}
	for i := range len(piece) {
		var longer []string
		for _, s := range all {
			longer = append(longer, s+piece[i:i+1])
			if piece[i] == from {
				longer = append(longer, s+to)
			}
		}
		all = longer
	}
	return all
}

// checkCut: P10, of a read cut out of a contig.
func checkCut(t *testing.T, f reference, letters string, budget int) bool {
	t.Helper()
	r := f.align(t, letters, budget)
	if r.Verdict == api.Unmapped || r.Verdict == api.Aligned && r.Mismatches != 0 {
		t.Fatalf("P10: Align of %s in %q with %d = %+v", letters, f.refs, budget, r)
	}
	return r.Verdict == api.Aligned
}

func TestReadsCutOutOfShortContigs(t *testing.T) {
	aligned := 0
	for _, ref := range words("ACGT", 5) {
		f := referenceOf(t, ref)
		for from := range len(ref) {
			for end := from + 1; end <= len(ref); end++ {
				for strand := api.OT; strand <= api.CTOB; strand++ {
					for _, s := range turnings(ref[from:end], strand) {
						if checkCut(t, f, lying(s, strand), 0) {
							aligned++
						}
					}
				}
			}
		}
	}
	if aligned == 0 {
		t.Error("no read was aligned")
	}
}

// The contigs have N beside the pieces that are cut out, and many of their pieces stand at several places.
func TestReadsCutOutOfDrawnContigs(t *testing.T) {
	r := rand.New(rand.NewSource(10))
	aligned := [api.CTOB + 1]int{}
	for range 300 {
		var refs []string
		for range 1 + r.Intn(4) {
			refs = append(refs, drawn(r, "ACGT", 20+r.Intn(40))+drawn(r, "ACGTN", r.Intn(10)))
		}
		f := referenceOf(t, refs...)
		for strand := api.OT; strand <= api.CTOB; strand++ {
			from := r.Intn(20)
			piece := refs[r.Intn(len(refs))][from : from+1+r.Intn(20-from)]
			all := turnings(piece, strand)
			for budget := 0; budget <= api.MaxBudget; budget++ {
				if checkCut(t, f, lying(all[r.Intn(len(all))], strand), budget) {
					aligned[strand]++
				}
			}
		}
	}
	for strand := api.OT; strand <= api.CTOB; strand++ {
		if aligned[strand] == 0 {
			t.Errorf("no read of strand %d was aligned", strand)
		}
	}
}

// checkStands: P11, at each place and strand.
func checkStands(t *testing.T, f reference, letters string, budget int) {
	t.Helper()
	r := f.align(t, letters, budget)
	for _, s := range stands(f.refs, letters, budget) {
		if r.Verdict == api.Unmapped || r.Verdict == api.Aligned && r.Mismatches > s.mismatches {
			t.Fatalf("P11: Align of %s in %q with %d = %+v, but it stands so: %+v", letters, f.refs, budget, r, s)
		}
	}
}

// checkTurnedRound: P12.
func checkTurnedRound(t *testing.T, f reference, letters string, budget int) {
	t.Helper()
	want := f.align(t, letters, budget)
	want.Strand = map[int]int{0: 0, api.OT: api.CTOT, api.CTOT: api.OT, api.OB: api.CTOB, api.CTOB: api.OB}[want.Strand]
	if got := f.align(t, turnedRound(letters), budget); got != want {
		t.Fatalf("P12: Align of %s, which is %s turned round, in %q with %d = %+v, want %+v", turnedRound(letters), letters, f.refs, budget, got, want)
	}
}

func TestStandsAndTurningRoundOfShortReads(t *testing.T) {
	reads := words("ACGTN", 3)
	for _, ref := range words("ACGTN", 3) {
		f := referenceOf(t, ref, "CAGN")
		for _, s := range reads {
			for budget := 0; budget <= api.MaxBudget; budget++ {
				checkStands(t, f, s, budget)
				checkTurnedRound(t, f, s, budget)
			}
		}
	}
}

func TestStandsAndTurningRoundOfDrawnReads(t *testing.T) {
	r := rand.New(rand.NewSource(12))
	verdicts := [3]int{}
	for range 200 {
		var refs []string
		for range 1 + r.Intn(5) {
			refs = append(refs, drawn(r, "ACCGGTN", 1+r.Intn(50)))
		}
		f := referenceOf(t, refs...)
		for range 10 {
			s := drawnRead(r, refs)
			for budget := 0; budget <= api.MaxBudget; budget++ {
				checkStands(t, f, s, budget)
				checkTurnedRound(t, f, s, budget)
				verdicts[f.align(t, s, budget).Verdict]++
			}
		}
	}
	if verdicts[0] == 0 || verdicts[1] == 0 || verdicts[2] == 0 {
		t.Errorf("not each verdict was drawn: %v", verdicts)
	}
}
