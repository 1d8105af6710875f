package bleach

import (
	"strings"

	"bleach/api"
)

// The calls stand in the order of the elements that count them.
const (
	keptCalls   = "ZXHU"
	turnedCalls = "zxhu"
)

func addVerdict(counts *api.Counts, verdict int) {
	switch verdict {
	case api.Unmapped:
		counts.Unmapped++
	case api.Aligned:
		counts.Aligned++
	case api.Ambiguous:
		counts.Ambiguous++
	}
}

// addCalls passes over the dots, which are in neither order.
func addCalls(counts *api.Counts, calls string) {
	for i := range len(calls) {
		if kind := strings.IndexByte(keptCalls, calls[i]); kind >= 0 {
			counts.Kept[kind]++
		}
		if kind := strings.IndexByte(turnedCalls, calls[i]); kind >= 0 {
			counts.Turned[kind]++
		}
	}
}
