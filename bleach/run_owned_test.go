package bleach_test

import (
	"math/rand"
	"runtime"
	"slices"
	"strings"
	"sync"
	"testing"
	"time"
	"unsafe"

	"bleach/api"
	"bleach/bleach"
)

// P13: the records are those of the reads, in their order, and Render writes them as Run did.
func checkParseOfRun(t *testing.T, refs, reads []string, s api.Setting) {
	t.Helper()
	got := run(t, fastaOf(refs...), fastqOf(reads...), s)
	records, e := bleach.Parse(got.text)
	if got.errno != api.OK || e != api.OK || !slices.Equal(records, modelRecords(refs, reads, s.Budget)) {
		t.Fatalf("P13: Parse of what Run answers = %.300v, %d", records, e)
	}
	if again, e := bleach.Render(records...); again != got.text || e != api.OK {
		t.Fatalf("P13: Render writes %.300q, %d, Run %.300q", again, e, got.text)
	}
}

func TestParseOfWhatRunAnswers(t *testing.T) {
	r := rand.New(rand.NewSource(18))
	for range 60 {
		refs, reads := drawnTexts(r, 1+r.Intn(api.MaxContigs), r.Intn(60))
		checkParseOfRun(t, refs, reads, api.Setting{Budget: r.Intn(4), Workers: 1 + r.Intn(16)})
	}
	checkParseOfRun(t, []string{"ACGTTCGA"}, nil, api.Setting{Workers: 1})
	checkParseOfRun(t, []string{"ACGTTCGA"}, []string{"TTTG"}, api.Setting{Workers: 16})
	refs, reads := drawnTexts(r, api.MaxContigs, api.MaxReads)
	checkParseOfRun(t, refs, reads, api.Setting{Budget: 3, Workers: 16})
}

// Reads that differ in their names alone: only the order tells them apart.
func TestParseOfWhatRunAnswersKeepsTheOrder(t *testing.T) {
	reads := slices.Repeat([]string{"TTTG"}, api.MaxReads)
	for workers := 1; workers <= 16; workers++ {
		checkParseOfRun(t, []string{"ACGTTCGA"}, reads, api.Setting{Workers: workers})
	}
}

// Both texts may stand in one list of bytes, one behind the other or one within the other.
func TestRunOfTextsThatShareMemory(t *testing.T) {
	b := []byte(rightFasta + rightFastq)
	want := run(t, rightFasta, rightFastq, api.Setting{Workers: 2})
	var got answer
	got.text, got.counts, got.errno, got.at = bleach.Run(b[:len(rightFasta)], b[len(rightFasta):], api.Setting{Workers: 2})
	if got != want || string(b) != rightFasta+rightFastq {
		t.Errorf("P9: Run of two pieces of one list = %+v, want %+v; the list is %q", got, want, b)
	}
	got.text, got.counts, got.errno, got.at = bleach.Run(b, b, api.Setting{Workers: 2})
	if got != (answer{errno: api.ErrFasta, at: len(rightFasta)}) || string(b) != rightFasta+rightFastq {
		t.Errorf("P9: Run of one list twice = %+v; the list is %q", got, b)
	}
}

func TestRunAnswersNewMemory(t *testing.T) {
	s := api.Setting{Workers: 2}
	for _, fastq := range []string{rightFastq, "@x\nNN\n+\nII\n", fastqOf(words("ACGT", 2)...)} {
		one, two := run(t, rightFasta, fastq, s), run(t, rightFasta, fastq, s)
		before := strings.Clone(two.text)
		copy(unsafe.Slice(unsafe.StringData(one.text), len(one.text)), strings.Repeat("#", len(one.text)))
		if two.text != before || run(t, rightFasta, fastq, s) != two {
			t.Errorf("P1: two answers of Run share memory: %q", two.text)
		}
	}
}

// Wrong calls between right ones leave nothing behind, and neither does another reference.
func TestRunHangsOnItsArgumentsAlone(t *testing.T) {
	r := rand.New(rand.NewSource(19))
	refs, reads := drawnTexts(r, 3, 30)
	others, more := drawnTexts(r, 4, 50)
	for range 5 {
		checkRunOf(t, refs, reads, 1)
		run(t, fastaOf(refs...), "@", api.Setting{Workers: 3})
		run(t, "", fastqOf(reads...), api.Setting{Workers: 3})
		run(t, fastaOf(refs...), fastqOf(reads...), api.Setting{})
		checkRunOf(t, others, more, 2)
	}
}

func TestRunBySeveralAtOnce(t *testing.T) {
	r := rand.New(rand.NewSource(20))
	refs, reads := drawnTexts(r, 4, 60)
	fasta, fastq := []byte(fastaOf(refs...)), []byte(fastqOf(reads...))
	var wait sync.WaitGroup
	for n := range 8 {
		wait.Go(func() {
			want := modelRun(refs, reads, n%4)
			for workers := 1; workers <= 16; workers++ {
				var got answer
				got.text, got.counts, got.errno, got.at = bleach.Run(fasta, fastq, api.Setting{Budget: n % 4, Workers: workers})
				if got != want {
					t.Errorf("P9: Run by several at once = %.300q, %+v, %d, %d", got.text, got.counts, got.errno, got.at)
				}
			}
		})
	}
	wait.Wait()
}

// busy tells whether somebody is aligning a read just now.
func busy() bool {
	stacks := make([]byte, 1<<20)
	return strings.Contains(string(stacks[:runtime.Stack(stacks, true)]), "bleach/bleach.Align(")
}

// None is at work when the call answers, and none stays: what a worker that is done leaves behind is gone a moment later.
func TestRunLeavesNoWorkers(t *testing.T) {
	r := rand.New(rand.NewSource(21))
	refs, reads := drawnTexts(r, 4, 100)
	fasta, fastq := []byte(fastaOf(refs...)), []byte(fastqOf(reads...))
	before := runtime.NumGoroutine()
	for range 5 {
		for workers := 1; workers <= 16; workers++ {
			for _, q := range [][]byte{fastq, nil, fastq[:len(fastq)/2], []byte(rightFastq)} {
				bleach.Run(fasta, q, api.Setting{Budget: 1, Workers: workers})
				if busy() {
					t.Fatalf("P1: Run answers with a worker of %d at work", workers)
				}
			}
		}
	}
	for range 1000 {
		if runtime.NumGoroutine() <= before {
			return
		}
		time.Sleep(10 * time.Millisecond)
	}
	t.Errorf("P1: %d goroutines ahead of the calls, %d behind them", before, runtime.NumGoroutine())
}
