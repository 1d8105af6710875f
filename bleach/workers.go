package bleach

import (
	"sync"

	"bleach/api"
	"bleach/index"
)

// crew: what the workers share. All of them read what stands ahead of records; each element of records is written by the one worker that has taken its read. So the mutex guards only what stands below it.
type crew struct {
	contigs []api.Contig
	x       *index.Index
	reads   []api.Read
	budget  int
	records []api.Record

	mutex  sync.Mutex
	next   int
	counts api.Counts
}

func isSetting(s api.Setting) bool {
	return isWithin(s.Budget, api.MaxBudget) && 1 <= s.Workers && s.Workers <= api.MaxWorkers
}

// alignAll is for contigs and reads that Fasta and Fastq gave: New and Align refuse none of them.
func alignAll(contigs []api.Contig, reads []api.Read, s api.Setting) ([]api.Record, api.Counts) {
	x, _ := index.New(contigs)
	c := &crew{contigs: contigs, x: x, reads: reads, budget: s.Budget, records: make([]api.Record, len(reads))}
	var wait sync.WaitGroup
	for range s.Workers {
		wait.Add(1)
		go func() {
			defer wait.Done()
			c.work()
		}()
	}
	wait.Wait()
	return c.records, c.counts
}

func (c *crew) work() {
	for n, ok := c.take(); ok; n, ok = c.take() {
		c.records[n], _ = Align(c.contigs, c.x, c.reads[n], c.budget)
		c.count(c.records[n])
	}
}

// take gives the next read that nobody has taken, if there is one.
func (c *crew) take() (n int, ok bool) {
	c.mutex.Lock()
	defer c.mutex.Unlock()
	if c.next == len(c.reads) {
		return 0, false
	}
	c.next++
	return c.next - 1, true
}

func (c *crew) count(r api.Record) {
	c.mutex.Lock()
	defer c.mutex.Unlock()
	addVerdict(&c.counts, r.Verdict)
	addCalls(&c.counts, r.Calls)
}
