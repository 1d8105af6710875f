package strands_test

import (
	"math"
	"testing"

	"bleach/strands"
)

func TestStrands(t *testing.T) {
	want := map[int]struct {
		top      bool
		from, to byte
	}{1: {true, 'C', 'T'}, 2: {false, 'G', 'A'}, 3: {true, 'C', 'T'}, 4: {false, 'G', 'A'}}
	for strand, w := range want {
		from, to := strands.Turned(strand)
		if !strands.Is(strand) || strands.IsTop(strand) != w.top || from != w.from || to != w.to {
			t.Errorf("strand %d: %v, top %v, turns %q into %q", strand, strands.Is(strand), strands.IsTop(strand), from, to)
		}
	}
}

func TestWhatIsNoStrand(t *testing.T) {
	for _, strand := range []int{0, 5, -1, -4, 257, 1 << 32, 1<<32 + 1, math.MinInt, math.MaxInt} {
		from, to := strands.Turned(strand)
		if strands.Is(strand) || strands.IsTop(strand) || from != 0 || to != 0 {
			t.Errorf("strand %d: %v, top %v, turns %q into %q", strand, strands.Is(strand), strands.IsTop(strand), from, to)
		}
	}
}
