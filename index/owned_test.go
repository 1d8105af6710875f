package index_test

import (
	"slices"
	"strings"
	"sync"
	"testing"
	"unsafe"

	"bleach/api"
	"bleach/index"
)

func TestNewWritesIntoNothing(t *testing.T) {
	all := []api.Contig{{Name: "one", Letters: "ACGT"}, {Name: "two", Letters: "GGCC"}, {Name: "behind", Letters: "?"}}
	before := slices.Clone(all)
	if _, e := index.New(all[:2]); e != api.OK {
		t.Fatalf("P5: New = %d", e)
	}
	if !slices.Equal(all, before) {
		t.Errorf("P1: New writes into what is handed in, or behind it: %v", all)
	}
}

// The contigs' list, and even the bytes of their letters, are written over behind New; of some contigs there is nothing to convert.
func TestNewKeepsNothing(t *testing.T) {
	letters := []string{"ACGTTCGA", "TATNA", "ACA", "TGT"}
	var contigs []api.Contig
	var bytes [][]byte
	for _, l := range letters {
		b := []byte(l)
		bytes = append(bytes, b)
		contigs = append(contigs, api.Contig{Name: "one", Letters: unsafe.String(&b[0], len(b))})
	}
	x, e := index.New(contigs)
	if e != api.OK {
		t.Fatalf("P5: New = %d", e)
	}
	for i, b := range bytes {
		copy(b, "CCCCCCCC")
		contigs[i] = api.Contig{Letters: "G"}
	}
	for _, s := range words("ACGTN", 3) {
		for strand := api.OT; strand <= api.CTOB; strand++ {
			checkFind(t, x, s, strand, 0, modelFind(letters, s, strand, 0))
		}
	}
}

func TestFindWritesIntoNothing(t *testing.T) {
	x := made(t, "ACGTTCGA")
	letters := []byte("ACGTbehind")
	for strand := api.OT; strand <= api.CTOB; strand++ {
		checkFind(t, x, unsafe.String(&letters[0], 4), strand, 0, at(0))
		if string(letters) != "ACGTbehind" {
			t.Fatalf("P1: Find writes into what is handed in: %q", letters)
		}
	}
}

// An answer, and its spare room, are written over; earlier and later ones stay as they are.
func TestFindAnswersNewMemory(t *testing.T) {
	x := made(t, "AAAAAA", "AAA")
	want := modelFind([]string{"AAAAAA", "AAA"}, "AA", api.OT, 0)
	one, _ := x.Find("AA", api.OT, 0)
	two, _ := x.Find("AA", api.OT, 0)
	one = one[:cap(one)]
	for i := range one {
		one[i] = api.Place{Contig: -7, At: -7}
	}
	if !slices.Equal(two, want) {
		t.Errorf("P1: two answers of Find share memory: %v", two)
	}
	checkFind(t, x, "AA", api.OT, 0, want)
	checkFind(t, x, "AA", api.CTOT, 0, want)
}

// Wrong calls between right ones leave nothing behind, either.
func TestFindHangsOnItsArgumentsAlone(t *testing.T) {
	contigs := []string{"ACGTTCGA", "GNCAT"}
	x := made(t, contigs...)
	for range 3 {
		for _, s := range []string{"ATG", "C", "GNC", "TTTTT", "N"} {
			for strand := api.OT; strand <= api.CTOB; strand++ {
				for budget := 0; budget <= api.MaxBudget; budget++ {
					x.Find(s, strand, -1)
					x.Find("x", strand, budget)
					x.Find(strings.Repeat("A", api.MaxRead+1), strand, budget)
					checkFind(t, x, s, strand, budget, modelFind(contigs, s, strand, budget))
				}
			}
		}
	}
}

func TestIndexesByTurns(t *testing.T) {
	references := [][]string{{"ACGTTCGA"}, {"TTTT", "ACG"}, {"N"}, {"ACGTTCGA", "ACGTTCGA"}, {"GGGGG"}}
	var all []*index.Index
	for _, r := range references {
		all = append(all, made(t, r...))
		index.New(nil)
		index.New(contigsOf("x"))
	}
	for _, s := range []string{"A", "ACG", "TT", "GG", "N", "ACGTTCGA"} {
		for strand := api.OT; strand <= api.CTOB; strand++ {
			for budget := 0; budget <= api.MaxBudget; budget++ {
				for i, x := range all {
					checkFind(t, x, s, strand, budget, modelFind(references[i], s, strand, budget))
				}
			}
		}
	}
}

// One index asked by several at once answers each as if it were alone.
func TestFindBySeveralAtOnce(t *testing.T) {
	contigs := []string{"ACGTTCGAACGTNACGTTTGCA", "GGCATTAC"}
	x := made(t, contigs...)
	var wait sync.WaitGroup
	for strand := api.OT; strand <= api.CTOB; strand++ {
		for budget := 0; budget <= api.MaxBudget; budget++ {
			wait.Go(func() {
				for _, s := range words("ACGTN", 3) {
					got, e := x.Find(s, strand, budget)
					if want := modelFind(contigs, s, strand, budget); e != api.OK || !slices.Equal(got, want) {
						t.Errorf("P6: Find(%q, %d, %d) = %v, %d, want %v", s, strand, budget, got, e, want)
					}
				}
			})
		}
	}
	wait.Wait()
}
