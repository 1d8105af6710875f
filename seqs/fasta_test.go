package seqs_test

import (
	"slices"
	"strconv"
	"strings"
	"testing"

	"bleach/api"
	"bleach/seqs"
)

var fasta = judged[api.Contig]{"Fasta", seqs.Fasta, modelFasta}

// contigsOf: that many contigs of one letter each; the first ten are of five bytes, the others of six.
func contigsOf(count int) string {
	var s strings.Builder
	for i := range count {
		s.WriteString(">" + strconv.Itoa(i) + "\nG\n")
	}
	return s.String()
}

func TestFastaReadsContigs(t *testing.T) {
	long := strings.Repeat("x", 32)
	for _, k := range []struct {
		text string
		want []api.Contig
	}{
		{">one\nACGT\ntTCga\n", []api.Contig{{Name: "one", Letters: "ACGTTTCGA"}}},
		{">n\nACGTNacgtn\n", []api.Contig{{Name: "n", Letters: "ACGTNACGTN"}}},
		{">a\nA\n>A\nc\n", []api.Contig{{Name: "a", Letters: "A"}, {Name: "A", Letters: "C"}}},
		{">ab\nA\n>a\nC\n>abc\nG\n", []api.Contig{{Name: "ab", Letters: "A"}, {Name: "a", Letters: "C"}, {Name: "abc", Letters: "G"}}},
		{">-._09azAZ\nA\n", []api.Contig{{Name: "-._09azAZ", Letters: "A"}}},
		{">" + long + "\nA\n", []api.Contig{{Name: long, Letters: "A"}}},
	} {
		if got, e, at := seqs.Fasta([]byte(k.text)); !slices.Equal(got, k.want) || e != api.OK || at != 0 {
			t.Errorf("P2: Fasta(%q) = %v, %d, %d, want %v", k.text, got, e, at, k.want)
		}
		fasta.check(t, k.text)
	}
}

func TestFastaTellsWhatIsNoContig(t *testing.T) {
	if got, e, at := seqs.Fasta(nil); got != nil || e != api.ErrFasta || at != 0 {
		t.Errorf("P2: Fasta(nil) = %v, %d, %d", got, e, at)
	}
	fasta.checkPlaced(t, []placed{
		{"", api.ErrFasta, 0},
		{"A", api.ErrFasta, 0},
		{"\n", api.ErrFasta, 0},
		{">", api.ErrFasta, 1},
		{">\nA\n", api.ErrFasta, 1},
		{">>\nA\n", api.ErrFasta, 1},
		{">one", api.ErrFasta, 4},
		{">one\r\nA\n", api.ErrFasta, 4},
		{">one\n", api.ErrFasta, 5},
		{">one\n\nA\n", api.ErrFasta, 5},
		{">one\n>two\nA\n", api.ErrFasta, 5},
		{">one\nAXG", api.ErrFasta, 6},
		{">one\nA", api.ErrFasta, 6},
		{">one\nA>two\nC\n", api.ErrFasta, 6},
		{">one\nA\n\n", api.ErrFasta, 7},
		{">one\nA\nU\n", api.ErrFasta, 7},
		{">one\nA\n>", api.ErrFasta, 8},
		{">one\nA\n>two\n", api.ErrFasta, 12},
		{">" + strings.Repeat("x", 32), api.ErrFasta, 33},
		{">" + strings.Repeat("x", 33) + "\nA\n", api.ErrFasta, 33},
		{">\xc3\xa9\nA\n", api.ErrFasta, 1},
	})
}

func TestFastaTellsNamesSeenTwice(t *testing.T) {
	fasta.checkPlaced(t, []placed{
		{">a\nA\n>a\nA\n", api.ErrTwice, 6},
		{">a\nA\n>a\n", api.ErrTwice, 6},
		{">a\nA\n>a\n!", api.ErrTwice, 6},
		{">a\nA\n>b\nA\n>a\nA\n>b\n", api.ErrTwice, 11},
		{">b\nA\n>a\nA\n>a\nA\n", api.ErrTwice, 11},
		// The line with the name may not be: it is no name that was there.
		{">a\nA\n>a", api.ErrFasta, 7},
		{">a\nA\n>a \nA\n", api.ErrFasta, 7},
		{">a\nA\n>aa", api.ErrFasta, 8},
		// Something is wrong ahead of it.
		{">a\nA!\n>a\nA\n", api.ErrFasta, 4},
	})
}

func TestFastaKeepsToItsBounds(t *testing.T) {
	sixteen := contigsOf(16) // 86 bytes
	full := ">f\n" + strings.Repeat("t", 4096)
	for _, text := range []string{sixteen, full + "\n", full[:2048] + "\n" + full[2048:] + "\n", full[:4098] + "\n>g\nA\n"} {
		if got, e, at := seqs.Fasta([]byte(text)); len(got) == 0 || e != api.OK || at != 0 {
			t.Errorf("P2: Fasta(%.80q) = %d contigs, %d, %d", text, len(got), e, at)
		}
		fasta.check(t, text)
	}
	fasta.checkPlaced(t, []placed{
		{contigsOf(17), api.ErrMany, 86},
		{contigsOf(40), api.ErrMany, 86},
		{sixteen + ">", api.ErrMany, 86},
		{sixteen + ">!", api.ErrMany, 86},
		{sixteen + ">0\nA\n", api.ErrMany, 86}, // ahead of the name that was there
		{sixteen + "!", api.ErrFasta, 86},
		{sixteen + "A", api.ErrFasta, 87},
		{full + "t\n", api.ErrMany, 4099},
		{full + "tt!", api.ErrMany, 4099},
		{full + "!\n", api.ErrFasta, 4099},
		{full, api.ErrFasta, 4099},
		{full + "\nA\n", api.ErrMany, 4100},
		{full + "\n!\n", api.ErrFasta, 4100},
		{full + "\n>g\nA\n", api.ErrMany, 4103},
		{full + "\n>g\n", api.ErrFasta, 4103},
		{full + "\n>f\nA\n", api.ErrTwice, 4101},
		{strings.Repeat("A", 1<<20), api.ErrFasta, 0},
		{">f\n" + strings.Repeat("A", 1<<16), api.ErrMany, 4099},
	})
}

func TestFastaOfManyTexts(t *testing.T) {
	fasta.checkAllShort(t, ">\naZ!", 7)
	fasta.checkAllShort(t, ">\na", 11)
	fasta.checkEdits(t, ">one\nACGT\ntTCga\n>B_2\nnN\n>c\nA\n>d\nA\n")
	fasta.checkEdits(t, ">"+strings.Repeat("x", 32)+"\nA\n>"+strings.Repeat("x", 31)+"\nA\n")
	fasta.checkEdits(t, contigsOf(17))
}

func TestFastaAnswersAreTheCallers(t *testing.T) {
	fasta.checkOwned(t, contigsOf(3))
	fasta.checkOwned(t, contigsOf(16))
}
