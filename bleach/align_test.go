package bleach_test

import (
	"fmt"
	"math"
	"math/rand"
	"slices"
	"strings"
	"testing"

	"bleach/api"
	"bleach/bleach"
)

var (
	unmapped  = api.Record{Verdict: api.Unmapped}
	ambiguous = api.Record{Verdict: api.Ambiguous}
)

// at: aligned in the first contig.
func at(strand, place, mismatches int, letters, calls string) api.Record {
	return api.Record{Verdict: api.Aligned, Strand: strand, Contig: "c0", At: place, Mismatches: mismatches, Letters: letters, Calls: calls}
}

func TestAlignOfTheExamples(t *testing.T) {
	f := referenceOf(t, "ACGTTCGA")
	f.check(t, "ATGT", 0, ambiguous)
	f.check(t, "ACGT", 0, ambiguous)
	f.check(t, "TTTG", 0, at(api.OT, 3, 0, "TTTG", "..z."))
	f.check(t, "NNNN", 3, unmapped)
}

// One read from each strand of one place: a C of the top strand was kept and one turned, and of the bottom strand likewise.
func TestAlignOnEachStrand(t *testing.T) {
	f := referenceOf(t, "TTAACGACATAGTGGATAACC")
	const top, bottom = "AATGACATAGTGG", "AACGACATAATGG"
	f.check(t, top, 0, at(api.OT, 2, 0, top, "..z..H......."))
	f.check(t, turnedRound(top), 0, at(api.CTOT, 2, 0, top, "..z..H......."))
	f.check(t, bottom, 0, at(api.CTOB, 2, 0, bottom, "...Z.....h.HH"))
	f.check(t, turnedRound(bottom), 0, at(api.OB, 2, 0, bottom, "...Z.....h.HH"))
}

// Wrong letters of every number: as many as the budget, and one more.
func TestAlignAtEachBudget(t *testing.T) {
	const ref = "CAGTCATTACGGATCCA"
	f := referenceOf(t, ref)
	const turned = "TAGTTATTATGGATTTA"
	for n := 0; n <= api.MaxBudget+1; n++ {
		s := turned[:3] + strings.Repeat("N", n) + turned[3+n:]
		for budget := 0; budget <= api.MaxBudget; budget++ {
			if n > budget {
				f.check(t, s, budget, unmapped)
				continue
			}
			calls := []byte("x...h....z....hu.")
			for i := range n {
				calls[3+i] = '.'
			}
			f.check(t, s, budget, at(api.OT, 0, n, s, string(calls)))
		}
	}
}

func TestAlignOfNoCandidate(t *testing.T) {
	f := referenceOf(t, "ACGTTCGA", "A")
	for budget := 0; budget <= api.MaxBudget; budget++ {
		f.check(t, "ACGTTCGAA", budget, unmapped)
		f.check(t, strings.Repeat("A", api.MaxRead), budget, unmapped)
		f.check(t, "NNNN", budget, unmapped)
	}
	f.check(t, "GGGGG", 0, unmapped)
	f.check(t, "N", 0, unmapped)
}

// Several with the least mismatches: on one strand, at two places of a contig and in two contigs; and on several strands.
func TestAlignOfSeveralBest(t *testing.T) {
	referenceOf(t, "CGATTAGTACC").check(t, "TGATTAG", 0, at(api.OT, 0, 0, "TGATTAG", "z......"))
	referenceOf(t, "CGATTAGTACCGATTAG").check(t, "TGATTAG", 0, ambiguous)
	referenceOf(t, "CGATTAGA", "TCGATTAG").check(t, "TGATTAG", 0, ambiguous)
	referenceOf(t, "CGATTAGA", "TTGATTAG").check(t, "TGATTAG", 0, ambiguous) // one of them turned, and one as it is

	referenceOf(t, "GGATCAG").check(t, "GGATCAG", 0, ambiguous) // OT, CTOB
	referenceOf(t, "CATTAC").check(t, "TATTAC", 0, at(api.OT, 0, 0, "TATTAC", "h....U"))
	referenceOf(t, "GTAACA").check(t, "TATTAC", 0, at(api.CTOT, 0, 0, "GTAATA", "....u."))
	referenceOf(t, "CATTAC", "GTAACA").check(t, "TATTAC", 0, ambiguous)
	referenceOf(t, "GTAACAGCATTAC").check(t, "TATTAC", 0, ambiguous)
	referenceOf(t, "CATTACC", "CATAACA").check(t, "TATTACA", 1, ambiguous) // each with one mismatch
}

// A candidate with fewer mismatches ends a tie of others, wherever it comes; one with more changes nothing.
func TestAlignOfOneBestAmongSeveral(t *testing.T) {
	const read, none, one, two = "CCATTAGT", "CCATTAGC", "TCATTAGC", "TTATTAGC" // none of them has a mismatch in three letters
	for _, refs := range [][]string{{none, two}, {none, two, two}, {two, none, two}, {two, two, none}, {two, one, none}, {one, two, none}, {one, one, none}, {none, one, two}, {one, none, one}} {
		want := at(api.OT, 0, 0, read, "HH.....u")
		want.Contig = contigName(slices.Index(refs, none))
		referenceOf(t, refs...).check(t, read, 0, want)
	}
	want := at(api.OT, 0, 1, read, ".H.....u")
	referenceOf(t, one, two, two).check(t, read, 0, want)
	want.Contig = "c1"
	referenceOf(t, two, one).check(t, read, 0, want)
	referenceOf(t, two, one, two, one).check(t, read, 0, ambiguous)
	referenceOf(t, one, two, one).check(t, read, 0, ambiguous)
	referenceOf(t, none, one, none).check(t, read, 0, ambiguous)
}

// More mismatches than the budget's are no hindrance, where they are none in three letters.
func TestAlignBeyondTheBudget(t *testing.T) {
	s := "CCCCAGCCCC"
	for budget := 0; budget <= api.MaxBudget; budget++ {
		referenceOf(t, "TTTTAGTTTT").check(t, s, budget, at(api.OT, 0, 8, s, ".........."))
	}
	s = strings.Repeat("C", api.MaxRead-1) + "A"
	ref := strings.Repeat("T", api.MaxRead-1) + "A"
	referenceOf(t, ref).check(t, s, 0, at(api.OT, 0, api.MaxRead-1, s, strings.Repeat(".", api.MaxRead)))
}

// A read that is its own reverse stands on two strands wherever it stands on one.
func TestAlignOfReadsThatAreTheirOwnReverse(t *testing.T) {
	for _, s := range []string{"AT", "ACGT", "AATT", "GGATCC", "CG", "ANT", "N", "CNNG"} {
		if s != turnedRound(s) {
			t.Fatalf("%s is not its own reverse", s)
		}
		for _, ref := range []string{s, "GG" + s, s + "A", "TTTTT" + s + "CACA"} {
			f := referenceOf(t, ref)
			f.checkAll(t, s)
			for budget := 0; budget <= api.MaxBudget; budget++ {
				if r := f.align(t, s, budget); r.Verdict == api.Aligned {
					t.Errorf("P7: Align of %s in %s with %d = %+v", s, ref, budget, r)
				}
			}
		}
	}
}

func TestAlignWithN(t *testing.T) {
	f := referenceOf(t, "GGCTTACANGATTTAG")
	for _, s := range []string{"GGTTTACAT", "GGTTTACAN", "GGTTTACAA"} {
		f.check(t, s, 0, unmapped)
		f.check(t, s, 1, at(api.OT, 0, 1, s, "..h...U.."))
		f.check(t, turnedRound(s), 1, at(api.CTOT, 0, 1, s, "..h...U.."))
	}
	f.check(t, "GGTTTNCAN", 1, unmapped)
	f.check(t, "GGTTTNCAN", 2, at(api.OT, 0, 2, "GGTTTNCAN", "..h...U.."))
	f.check(t, "GGTTTNNAN", 3, at(api.OT, 0, 3, "GGTTTNNAN", "..h......"))
	f.check(t, "GGCTTACAN", 1, ambiguous) // nothing is turned: the read may be from the bottom as well
}

// Each letter of a read against each of the reference, for each strand, amid letters that tell the strand: the pairs that are no mismatch are written out.
func TestMismatchesOfEachPairOfLetters(t *testing.T) {
	right := map[int]string{api.OT: "AA CC GG TT TC", api.CTOT: "AA CC GG TT TC", api.OB: "AA CC GG TT AG", api.CTOB: "AA CC GG TT AG"}
	amid := map[int][3]string{
		api.OT:   {"ATATTTGGA", "ATACTCGGA", "GTAGG"},
		api.CTOT: {"ATATTTGGA", "ATACTCGGA", "GTAGG"},
		api.OB:   {"ACCAAATAT", "GCCGAGTAT", "CCTAC"},
		api.CTOB: {"ACCAAATAT", "GCCGAGTAT", "CCTAC"},
	}
	for strand, pairs := range right {
		for _, c := range words("ACGTN", 1) {
			for _, ref := range words("ACGTN", 1) {
				s := amid[strand][0] + c + amid[strand][2]
				want := 1
				if slices.Contains(strings.Fields(pairs), c+ref) {
					want = 0
				}
				got := referenceOf(t, amid[strand][1]+ref+amid[strand][2]).align(t, lying(s, strand), 1)
				if got.Verdict != api.Aligned || got.Strand != strand || got.Mismatches != want || got.Letters != s {
					t.Errorf("P7: %s against %s for %d: %+v, want %d mismatches", c, ref, strand, got, want)
				}
			}
		}
	}
}

func TestAlignOfAllShortReferences(t *testing.T) {
	reads := words("ACGTN", 3)
	for _, ref := range words("ACGTN", 4) {
		referenceOf(t, ref).checkAll(t, reads...)
	}
}

func TestAlignOfAllShortPairsOfContigs(t *testing.T) {
	reads := words("ACGT", 3)
	for _, one := range words("CTGN", 2) {
		for _, two := range words("ACGT", 3) {
			referenceOf(t, one, two).checkAll(t, reads...)
		}
	}
}

func TestAlignInDrawnReferences(t *testing.T) {
	r := rand.New(rand.NewSource(7))
	seen := map[string]int{}
	for range 150 {
		var refs []string
		for range 1 + r.Intn(api.MaxContigs) {
			refs = append(refs, drawn(r, []string{"ACGT", "ACGTN", "ACCGTT", "AAG", "CCT"}[r.Intn(5)], 1+r.Intn(40)))
		}
		f := referenceOf(t, refs...)
		for range 12 {
			s := drawnRead(r, refs)
			f.checkAll(t, s)
			got := f.align(t, s, 1)
			seen[fmt.Sprint(got.Verdict, got.Strand)]++
		}
	}
	if len(seen) != 6 {
		t.Errorf("not each verdict and strand was drawn: %v", seen)
	}
}

// drawnRead: a piece of a contig, on any strand, a few letters changed; or letters of no contig.
func drawnRead(r *rand.Rand, refs []string) string {
	if r.Intn(8) == 0 {
		return drawn(r, "ACGTN", 1+r.Intn(12))
	}
	ref := refs[r.Intn(len(refs))]
	from := r.Intn(len(ref))
	strand := api.OT + r.Intn(4)
	s := []byte(ref[from : from+1+r.Intn(len(ref)-from)])
	for i, c := range s {
		switch {
		case r.Intn(12) == 0:
			s[i] = "ACGTN"[r.Intn(5)]
		case r.Intn(2) == 0 && c == 'C' && isTop(strand):
			s[i] = 'T'
		case r.Intn(2) == 0 && c == 'G' && !isTop(strand):
			s[i] = 'A'
		}
	}
	return lying(string(s), strand)
}

// Reads of the greatest length, from the ends of the greatest reference and from its midst.
func TestAlignAtTheBounds(t *testing.T) {
	r := rand.New(rand.NewSource(8))
	ref := drawn(r, "ACGT", api.MaxLetters)
	f := referenceOf(t, ref)
	last := api.MaxLetters - api.MaxRead
	for _, from := range []int{0, 1, 2000, last - 1, last} {
		piece := ref[from : from+api.MaxRead]
		for strand := api.OT; strand <= api.CTOB; strand++ {
			s := strings.ReplaceAll(piece, "C", "T")
			if !isTop(strand) {
				s = strings.ReplaceAll(piece, "G", "A")
			}
			want := at(strand, from, 0, s, modelCalls(s, ref, from, strand))
			f.check(t, lying(s, strand), 0, want)
			f.check(t, lying(s, strand), api.MaxBudget, want)
		}
	}
	share := api.MaxLetters / api.MaxContigs
	var shares []string
	for i := range api.MaxContigs {
		shares = append(shares, ref[i*share:(i+1)*share])
	}
	f = referenceOf(t, shares...)
	s := strings.ReplaceAll(shares[15][share-api.MaxRead:], "C", "T")
	f.check(t, s, 0, api.Record{Verdict: api.Aligned, Strand: api.OT, Contig: "c15", At: share - api.MaxRead, Letters: s, Calls: modelCalls(s, shares[15], share-api.MaxRead, api.OT)})
	f.check(t, ref[share-20:share+20], 0, unmapped) // across two contigs
	referenceOf(t, strings.Repeat("A", api.MaxLetters)).check(t, "A", 0, ambiguous)
}

// Names are not looked at: whatever they are, the record has them.
func TestNamesOfReadsAndContigs(t *testing.T) {
	for _, name := range []string{"", "r", "a b\tc\n", "\xff\x00", "Ω", strings.Repeat("n", 1000)} {
		f := referenceOf(t, "ACGTTCGA")
		f.contigs[0].Name = "con" + name
		for letters, want := range map[string]api.Record{"TTTG": at(api.OT, 3, 0, "TTTG", "..z."), "ACGT": ambiguous, "GGGGG": unmapped} {
			want.Name = name
			if want.Verdict == api.Aligned {
				want.Contig = "con" + name
			}
			if got, e := bleach.Align(f.contigs, f.x, api.Read{Name: name, Letters: letters}, 0); got != want || e != api.OK {
				t.Errorf("P7: Align of a read named %.20q = %+v, %d, want %+v", name, got, e, want)
			}
		}
	}
}

func checkRefused(t *testing.T, letters string, budget int, want api.Errno) {
	t.Helper()
	f := referenceOf(t, "ACGTTCGA", strings.Repeat("A", 200))
	defer func() {
		if p := recover(); p != nil {
			t.Fatalf("P1: Align of %.20q with %d panics: %v", letters, budget, p)
		}
	}()
	for _, name := range []string{"r", "", "\n"} {
		if got, e := bleach.Align(f.contigs, f.x, api.Read{Name: name, Letters: letters}, budget); got != (api.Record{}) || e != want {
			t.Errorf("P7: Align of %.20q with %d = %+v, %d, want %d", letters, budget, got, e, want)
		}
	}
}

// ErrSetting is named first: it is the answer whatever the letters are.
func TestAlignOfWrongBudgets(t *testing.T) {
	long := strings.Repeat("A", api.MaxRead+1)
	for _, letters := range []string{"A", "TTTG", "", "a", "AX", "\xff", long, long + "x"} {
		for _, budget := range []int{-1, api.MaxBudget + 1, 256, 1 << 32, -1 << 32, math.MinInt, math.MaxInt} {
			checkRefused(t, letters, budget, api.ErrSetting)
		}
	}
}

func checkRefusedAnyhow(t *testing.T, letters string, want api.Errno) {
	t.Helper()
	for budget := 0; budget <= api.MaxBudget; budget++ {
		checkRefused(t, letters, budget, want)
	}
}

// ErrLetter is named ahead of ErrLength.
func TestAlignOfWrongLetters(t *testing.T) {
	long := strings.Repeat("A", api.MaxRead+1)
	checkRefusedAnyhow(t, "", api.ErrLetter)
	for n := range 256 {
		c := string([]byte{byte(n)})
		if strings.Contains("ACGTN", c) {
			continue
		}
		for _, s := range []string{c, c + "ACG", "AC" + c + "G", "ACG" + c, c + long, long + c} {
			checkRefusedAnyhow(t, s, api.ErrLetter)
		}
	}
	for _, s := range []string{"acgt", "ACGT\n", "ACGÅ", long[:50] + "n"} {
		checkRefusedAnyhow(t, s, api.ErrLetter)
	}
}

func TestAlignOfTooManyLetters(t *testing.T) {
	for _, c := range []string{"A", "C", "G", "T", "N"} {
		checkRefusedAnyhow(t, strings.Repeat(c, api.MaxRead+1), api.ErrLength)
		checkRefusedAnyhow(t, strings.Repeat(c, 1<<16), api.ErrLength)
		referenceOf(t, "ACGTTCGA").check(t, strings.Repeat(c, api.MaxRead), 3, unmapped)
	}
}
