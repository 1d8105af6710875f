// Package seqs: texts of letters: see DOC.md.
package seqs

import (
	"bleach/alphabet"
	"bleach/api"
	"bleach/strands"
)

// Reverse gives the letters of the other strand (P4).
func Reverse(letters string) (string, api.Errno) {
	if !alphabet.AreLetters(letters) {
		return "", api.ErrLetter
	}
	out := make([]byte, len(letters))
	for i := range out {
		out[i] = alphabet.Complement(letters[len(letters)-1-i])
	}
	return string(out), api.OK
}

// Convert bleaches letters (P4).
func Convert(letters string, strand int) (string, api.Errno) {
	if !alphabet.AreLetters(letters) {
		return "", api.ErrLetter
	}
	from, to := strands.Turned(strand)
	if from == 0 {
		return "", api.ErrSetting
	}
	out := []byte(letters)
	for i, c := range out {
		if c == from {
			out[i] = to
		}
	}
	return string(out), api.OK
}

// byteAt gives 0 behind the end: no text may hold that byte anywhere, so a text that ends too early fails where a wrong byte would.
func byteAt(b []byte, at int) byte {
	if at < len(b) {
		return b[at]
	}
	return 0
}

// nameEnd tells where the name that begins at first ends; a byte that would make it too long is none of it.
func nameEnd(b []byte, first int) int {
	at := first
	for at-first < api.MaxName && alphabet.IsNameByte(byteAt(b, at)) {
		at++
	}
	return at
}
