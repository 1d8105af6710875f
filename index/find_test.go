package index_test

import (
	"math"
	"math/rand"
	"slices"
	"strings"
	"testing"

	"bleach/api"
)

// at gives places in the first contig.
func at(of ...int) []api.Place {
	var all []api.Place
	for _, n := range of {
		all = append(all, api.Place{At: n})
	}
	return all
}

func TestFindOfTheExamples(t *testing.T) {
	x := made(t, "ACGTTCGA")
	checkFind(t, x, "ATG", api.OT, 0, at(0))
	checkFind(t, x, "TTG", api.OT, 1, at(0, 3, 4))
	checkFind(t, x, "ATGT", api.OT, 0, at(0))
	checkFind(t, x, "ACAT", api.OB, 0, at(0))
	for strand := api.OT; strand <= api.CTOB; strand++ {
		checkFind(t, x, "ACGT", strand, 0, at(0))
		checkFind(t, x, "NNNN", strand, 3, nil)
	}
	checkFind(t, x, "TTTG", api.OT, 0, at(3))
}

// Each letter against each, for each strand: the pairs that are no mismatch are written out.
func TestFindOfEachPairOfLetters(t *testing.T) {
	pairs := map[int]string{
		api.OT:   "AA CC CT TC GG TT",
		api.CTOT: "AA CC CT TC GG TT",
		api.OB:   "AA AG GA CC GG TT",
		api.CTOB: "AA AG GA CC GG TT",
	}
	for strand, right := range pairs {
		for _, s := range words("ACGTN", 1) {
			for _, ref := range words("ACGTN", 1) {
				want := at()
				if slices.Contains(strings.Fields(right), s+ref) {
					want = at(0)
				}
				checkFind(t, made(t, ref), s, strand, 0, want)
				checkFind(t, made(t, ref), s, strand, 1, at(0))
			}
		}
	}
}

func TestFindOfAllShortReferences(t *testing.T) {
	reads := words("ACGTN", 3)
	for _, ref := range words("ACGTN", 4) {
		checkAll(t, []string{ref}, reads...)
	}
}

func TestFindOfAllShortPairsOfContigs(t *testing.T) {
	reads := words("ACGN", 3)
	for _, one := range words("ATGN", 2) {
		for _, two := range words("ACGN", 2) {
			checkAll(t, []string{one, two}, reads...)
		}
	}
}

// Just as many mismatches as there may be, and one more, wherever in the read they are.
func TestFindAtEachBudget(t *testing.T) {
	const ref = "GATTACAGATTA"
	x := made(t, ref)
	for mask := range 1 << len(ref) {
		read, n := []byte(ref), 0
		for i := range read {
			if mask>>i&1 == 1 {
				read[i], n = 'N', n+1
			}
		}
		for budget := 0; budget <= api.MaxBudget; budget++ {
			want := at()
			if n <= budget {
				want = at(0)
			}
			checkFind(t, x, string(read), api.OT, budget, want)
		}
	}
}

func TestFindOfN(t *testing.T) {
	x := made(t, "NNNN")
	for n := 1; n <= 4; n++ {
		for _, c := range "ACGTN" {
			s := strings.Repeat(string(c), n)
			for strand := api.OT; strand <= api.CTOB; strand++ {
				for budget := 0; budget <= api.MaxBudget; budget++ {
					want := at()
					if n <= budget {
						want = at(0, 1, 2, 3)[:5-n]
					}
					checkFind(t, x, s, strand, budget, want)
				}
			}
		}
	}
	x = made(t, "ACNTA")
	checkFind(t, x, "CAT", api.OT, 0, nil)
	checkFind(t, x, "CAT", api.OT, 1, at(1))
	checkFind(t, x, "CNT", api.OT, 0, nil)
	checkFind(t, x, "CNT", api.OT, 1, at(1))
	checkFind(t, x, "NNN", api.OT, 3, at(0, 1, 2))
}

func TestFindAtTheEndsOfContigs(t *testing.T) {
	x := made(t, "AAAC", "GGGG", "CAAA")
	checkFind(t, x, "AAAC", api.OT, 0, at(0))
	checkFind(t, x, "AC", api.OT, 0, at(2))
	checkFind(t, x, "AAA", api.OT, 0, []api.Place{{Contig: 0, At: 0}, {Contig: 2, At: 1}})
	checkFind(t, x, "C", api.OT, 0, []api.Place{{Contig: 0, At: 3}, {Contig: 2, At: 0}})
	// The last letter would stand behind the end: that is no mismatch that a budget pays.
	checkFind(t, x, "AAACT", api.OT, 3, nil)
	checkFind(t, x, "AACG", api.OT, 0, nil)
	checkFind(t, x, "AACN", api.OT, 1, nil)
	checkFind(t, x, "NAAAC", api.OT, 3, nil)
	// Not across two contigs, either.
	checkFind(t, x, "ACGG", api.OT, 0, nil)
	checkFind(t, x, "CGGGG", api.OT, 3, nil)
	checkFind(t, x, "AAACGGGGCAAA", api.OT, 3, nil)
}

func TestFindOfManyPlacesInTheirOrder(t *testing.T) {
	const share = api.MaxLetters / api.MaxContigs
	shares := slices.Repeat([]string{strings.Repeat("A", share)}, api.MaxContigs)
	x := made(t, shares...)
	for _, n := range []int{1, 2, api.MaxRead} {
		var want []api.Place
		for c := range api.MaxContigs {
			for i := range share - n + 1 {
				want = append(want, api.Place{Contig: c, At: i})
			}
		}
		checkFind(t, x, strings.Repeat("A", n), api.OT, 0, want)
	}
	whole := make([]int, api.MaxLetters)
	for i := range whole {
		whole[i] = i
	}
	checkFind(t, made(t, strings.Repeat("A", api.MaxLetters)), "G", api.OB, 0, at(whole...))
}

func TestFindOfNoPlace(t *testing.T) {
	x := made(t, "ACGTTCGA", "A")
	for strand := api.OT; strand <= api.CTOB; strand++ {
		checkFind(t, x, "AAAAA", strand, 0, nil)
		checkFind(t, x, "CCCCCCCC", strand, 3, nil)
		checkFind(t, x, "ACGTTCGAA", strand, 3, nil)
		checkFind(t, x, strings.Repeat("A", api.MaxRead), strand, 3, nil)
	}
}

// reads of the greatest length, in a reference of it, with wrong letters anywhere.
func TestFindAtTheBounds(t *testing.T) {
	r := rand.New(rand.NewSource(2))
	ref := drawn(r, "ACGT", api.MaxLetters)
	last := api.MaxLetters - api.MaxRead
	for _, from := range []int{0, 1, 1000, last - 1, last} {
		s := ref[from : from+api.MaxRead]
		checkAll(t, []string{ref}, s, s[1:])
		for i := 0; i+api.MaxBudget < len(s); i++ {
			wrong := s[:i] + "NNN" + s[i+3:]
			x := made(t, ref)
			checkFind(t, x, wrong, api.OB, 3, at(from))
			checkFind(t, x, wrong, api.OB, 2, nil)
		}
	}
}

func drawn(r *rand.Rand, of string, n int) string {
	b := make([]byte, n)
	for i := range b {
		b[i] = of[r.Intn(len(of))]
	}
	return string(b)
}

func TestFindInDrawnReferences(t *testing.T) {
	r := rand.New(rand.NewSource(3))
	for range 300 {
		var contigs []string
		for range 1 + r.Intn(api.MaxContigs) {
			contigs = append(contigs, drawn(r, []string{"ACGT", "ACGTN", "AC", "AG", "CT"}[r.Intn(5)], 1+r.Intn(60)))
		}
		var reads []string
		for range 6 {
			reads = append(reads, drawn(r, "ACGTACGTN", 1+r.Intn(10)))
		}
		c := contigs[r.Intn(len(contigs))]
		reads = append(reads, c, c+"A", c[r.Intn(len(c)):])
		checkAll(t, contigs, reads...)
	}
}

func checkRefused(t *testing.T, s string, strand, budget int, want api.Errno) {
	t.Helper()
	x := made(t, "ACGTTCGA")
	defer func() {
		if p := recover(); p != nil {
			t.Fatalf("P1: Find(%.20q, %d, %d) panics: %v", s, strand, budget, p)
		}
	}()
	if got, e := x.Find(s, strand, budget); got != nil || e != want {
		t.Errorf("P6: Find(%.20q, %d, %d) = %v, %d, want %d", s, strand, budget, got, e, want)
	}
}

// ErrSetting is named first: it is the answer whatever the letters are.
func TestFindOfWrongSettings(t *testing.T) {
	long := strings.Repeat("A", api.MaxRead+1)
	strands := []int{0, 5, 6, -1, -4, 257, 1 << 32, 1<<32 + 1, math.MinInt, math.MaxInt}
	budgets := []int{-1, api.MaxBudget + 1, 256, 1 << 32, math.MinInt, math.MaxInt}
	for _, s := range []string{"A", "ACGT", "", "a", "AX", "\xff", long, long + "x"} {
		for _, strand := range strands {
			for _, budget := range append(budgets, 0, 1, 2, 3) {
				checkRefused(t, s, strand, budget, api.ErrSetting)
			}
		}
		for strand := api.OT; strand <= api.CTOB; strand++ {
			for _, budget := range budgets {
				checkRefused(t, s, strand, budget, api.ErrSetting)
			}
		}
	}
}

func checkRefusedAnyhow(t *testing.T, s string, want api.Errno) {
	t.Helper()
	for strand := api.OT; strand <= api.CTOB; strand++ {
		for budget := 0; budget <= api.MaxBudget; budget++ {
			checkRefused(t, s, strand, budget, want)
		}
	}
}

func TestFindOfWrongLetters(t *testing.T) {
	long := strings.Repeat("A", api.MaxRead+1)
	checkRefusedAnyhow(t, "", api.ErrLetter)
	for n := range 256 {
		c := string([]byte{byte(n)})
		if strings.Contains("ACGTN", c) {
			continue
		}
		for _, s := range []string{c, c + "ACG", "AC" + c + "G", "ACG" + c, c + long, long + c} {
			checkRefusedAnyhow(t, s, api.ErrLetter)
		}
	}
	checkRefusedAnyhow(t, "acgt", api.ErrLetter)
	checkRefusedAnyhow(t, "ACGÅ", api.ErrLetter)
}

func TestFindOfTooManyLetters(t *testing.T) {
	for _, c := range []string{"A", "C", "G", "T", "N"} {
		checkRefusedAnyhow(t, strings.Repeat(c, api.MaxRead+1), api.ErrLength)
		checkRefusedAnyhow(t, strings.Repeat(c, 1<<16), api.ErrLength)
		checkAll(t, []string{"ACGTTCGA"}, strings.Repeat(c, api.MaxRead))
	}
	// Even where so many letters would stand.
	x := made(t, strings.Repeat("A", 200))
	if got, e := x.Find(strings.Repeat("A", api.MaxRead+1), api.OT, 0); got != nil || e != api.ErrLength {
		t.Errorf("P6: Find of %d letters = %v, %d, want ErrLength", api.MaxRead+1, got, e)
	}
}
