package bleach

import (
	"bleach/alphabet"
	"bleach/strands"
)

// calls tells of each letter that lies along a contig from a place on whether it was kept or turned.
func calls(letters, contig string, at, strand int) string {
	out := make([]byte, len(letters))
	for i := range out {
		out[i] = call(letters[i], contig, at+i, strand)
	}
	return string(out)
}

func call(letter byte, contig string, at, strand int) byte {
	from, to := strands.Turned(strand)
	switch {
	case contig[at] != from:
		return '.'
	case letter == from:
		return kind(following(contig, at, strand)) - 'a' + 'A'
	case letter == to:
		return kind(following(contig, at, strand))
	}
	return '.'
}

// following gives the two letters behind a cytosine as its own strand is read: the bottom one runs the other way.
func following(contig string, at, strand int) (first, second byte) {
	if strands.IsTop(strand) {
		return letterAt(contig, at+1), letterAt(contig, at+2)
	}
	return alphabet.Complement(letterAt(contig, at-1)), alphabet.Complement(letterAt(contig, at-2))
}

// letterAt gives N where the contig has none: what is not there is as unknown as what is N.
func letterAt(contig string, at int) byte {
	if at < 0 || at >= len(contig) {
		return 'N'
	}
	return contig[at]
}

// kind asks for the second letter only where the first does not tell all.
func kind(first, second byte) byte {
	switch {
	case first == 'G':
		return 'z'
	case first == 'N':
		return 'u'
	case second == 'G':
		return 'x'
	case second == 'N':
		return 'u'
	}
	return 'h'
}
