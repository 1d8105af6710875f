// Package strands: the four strands, and what the treatment turns on each.
package strands

import "bleach/api"

// Is tells whether a number is a strand's.
func Is(strand int) bool {
	switch strand {
	case api.OT, api.OB, api.CTOT, api.CTOB:
		return true
	}
	return false
}

// IsTop holds of the top strand and of what is complementary to it: along the reference both show the same letters turned.
func IsTop(strand int) bool {
	return strand == api.OT || strand == api.CTOT
}

// Turned tells which letter the treatment turns, and into which, as seen along the reference: the strands from the bottom show a turned C as a G that became an A. Both are 0 where there is no such strand.
func Turned(strand int) (from, to byte) {
	switch {
	case !Is(strand):
		return 0, 0
	case IsTop(strand):
		return 'C', 'T'
	}
	return 'G', 'A'
}
