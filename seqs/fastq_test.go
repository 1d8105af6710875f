package seqs_test

import (
	"slices"
	"strings"
	"testing"

	"bleach/api"
	"bleach/seqs"
)

var fastq = judged[api.Read]{"Fastq", seqs.Fastq, modelFastq}

// readsOf: that many reads of nine bytes each, all of one name.
func readsOf(count int) string {
	return strings.Repeat("@r\nC\n+\nI\n", count)
}

func TestFastqReadsReads(t *testing.T) {
	long := strings.Repeat("x", 32)
	for _, k := range []struct {
		text string
		want []api.Read
	}{
		{"", nil},
		{"@r\nACGTNacgtn\n+\n!\"#@+>IZ}~\n", []api.Read{{Name: "r", Letters: "ACGTNACGTN"}}},
		{"@r\nA\n+\n@\n@r\ng\n+\n+\n", []api.Read{{Name: "r", Letters: "A"}, {Name: "r", Letters: "G"}}},
		{"@" + long + "\nT\n+\nI\n", []api.Read{{Name: long, Letters: "T"}}},
		{"@-._09azAZ\nn\n+\nI\n", []api.Read{{Name: "-._09azAZ", Letters: "N"}}},
	} {
		if got, e, at := seqs.Fastq([]byte(k.text)); !slices.Equal(got, k.want) || e != api.OK || at != 0 {
			t.Errorf("P3: Fastq(%q) = %v, %d, %d, want %v", k.text, got, e, at, k.want)
		}
		fastq.check(t, k.text)
	}
	if got, e, at := seqs.Fastq(nil); len(got) != 0 || e != api.OK || at != 0 {
		t.Errorf("P3: Fastq(nil) = %v, %d, %d", got, e, at)
	}
}

func TestFastqTellsWhatIsNoRead(t *testing.T) {
	fastq.checkPlaced(t, []placed{
		{"\n", api.ErrFastq, 0},
		{">r\nA\n+\nI\n", api.ErrFastq, 0},
		{"@", api.ErrFastq, 1},
		{"@\nA\n+\nI\n", api.ErrFastq, 1},
		{"@@\nA\n+\nI\n", api.ErrFastq, 1},
		{"@r", api.ErrFastq, 2},
		{"@r 1\nA\n+\nI\n", api.ErrFastq, 2},
		{"@r\r\nA\n+\nI\n", api.ErrFastq, 2},
		{"@r\n", api.ErrFastq, 3},
		{"@r\n\n+\n\n", api.ErrFastq, 3},
		{"@r\nU\n+\nI\n", api.ErrFastq, 3},
		{"@r\nA", api.ErrFastq, 4},
		{"@r\nA.\n+\nI\n", api.ErrFastq, 4},
		{"@r\nA\n", api.ErrFastq, 5},
		{"@r\nA\nA\n+\nII\n", api.ErrFastq, 5},
		{"@r\nA\n\n+\nI\n", api.ErrFastq, 5},
		{"@r\nA\n+", api.ErrFastq, 6},
		{"@r\nA\n+r\nI\n", api.ErrFastq, 6},
		{"@r\nA\n++\nI\n", api.ErrFastq, 6},
		{readsOf(1) + "\n", api.ErrFastq, 9},
		{readsOf(1) + "A", api.ErrFastq, 9},
		{readsOf(1) + "@", api.ErrFastq, 10},
		{"@" + strings.Repeat("x", 32), api.ErrFastq, 33},
		{"@" + strings.Repeat("x", 33) + "\n", api.ErrFastq, 33},
		{"@\xc3\xa9\nA\n+\nI\n", api.ErrFastq, 1},
	})
}

func TestFastqTellsWrongQualities(t *testing.T) {
	fastq.checkPlaced(t, []placed{
		{"@r\nACG\n+\nII\n", api.ErrQuality, 11},
		{"@r\nACG\n+\n", api.ErrQuality, 9},
		{"@r\nACG\n+\n\n", api.ErrQuality, 9},
		{"@r\nACG\n+\nII", api.ErrQuality, 11},
		{"@r\nACG\n+\nIII", api.ErrQuality, 12},
		{"@r\nACG\n+\nIIII\n", api.ErrQuality, 12},
		{"@r\nACG\n+\nIII\r\n", api.ErrQuality, 12},
		{"@r\nACG\n+\nI I\n", api.ErrQuality, 10},
		{"@r\nACG\n+\nI\x7fI\n", api.ErrQuality, 10},
		{"@r\nACG\n+\nI\x00I\n", api.ErrQuality, 10},
		{"@r\nACG\n+\nI\xffI\n", api.ErrQuality, 10},
		{"@r\nACG\n+\n\xc3\xa9I\n", api.ErrQuality, 9},
		{readsOf(1) + "@r\nC\n+\nII", api.ErrQuality, 17},
	})
}

func TestFastqKeepsToItsBounds(t *testing.T) {
	long := strings.Repeat("a", 128)
	for _, text := range []string{readsOf(256), "@r\n" + long + "\n+\n" + long + "\n", readsOf(255) + "@r\n" + long + "\n+\n" + long + "\n"} {
		if got, e, at := seqs.Fastq([]byte(text)); len(got) == 0 || e != api.OK || at != 0 {
			t.Errorf("P3: Fastq(%.80q) = %d reads, %d, %d", text, len(got), e, at)
		}
		fastq.check(t, text)
	}
	fastq.checkPlaced(t, []placed{
		{readsOf(257), api.ErrMany, 2304},
		{readsOf(1000), api.ErrMany, 2304},
		{readsOf(256) + "@", api.ErrMany, 2304},
		{readsOf(256) + "@!", api.ErrMany, 2304},
		{readsOf(256) + "!", api.ErrFastq, 2304},
		{readsOf(255) + "@r\nC\n+\n\n" + readsOf(1), api.ErrQuality, 2302},
		{"@r\n" + long + "a\n+\n" + long + "a\n", api.ErrLength, 131},
		{"@r\n" + long + "a!", api.ErrLength, 131},
		{"@r\n" + long + "!", api.ErrFastq, 131},
		{"@r\n" + long, api.ErrFastq, 131},
		{"@r\n" + long + "\n+\n" + long, api.ErrQuality, 262},
		{"@r\n" + strings.Repeat("a", 1<<16), api.ErrLength, 131},
		{readsOf(1) + "@r\n" + long + "a", api.ErrLength, 140},
	})
}

func TestFastqOfManyTexts(t *testing.T) {
	fastq.checkAllShort(t, "@\na+!", 7)
	fastq.checkEdits(t, "@r1\nACGtn\n+\n!~@+I\n@r1\nA\n+\n+\n@q\ngg\n+\nII\n")
	fastq.checkEdits(t, "@"+strings.Repeat("x", 32)+"\nA\n+\nI\n")
	// All short ends of a read that has begun: from nothing on, few short texts get to its last lines.
	for _, ahead := range []string{"@a\naa\n", "@a\naa\n+\n"} {
		inner := fastq
		inner.call = func(b []byte) ([]api.Read, api.Errno, int) { return seqs.Fastq(append([]byte(ahead), b...)) }
		inner.model = func(s string) ([]api.Read, api.Errno, int) { return modelFastq(ahead + s) }
		inner.checkAllShort(t, "@\na+ ", 6)
	}
}

func TestFastqAnswersAreTheCallers(t *testing.T) {
	fastq.checkOwned(t, readsOf(3))
	fastq.checkOwned(t, readsOf(256))
}
