package seqs

import (
	"bleach/alphabet"
	"bleach/api"
)

// Fastq reads reads (P3).
func Fastq(b []byte) ([]api.Read, api.Errno, int) {
	var reads []api.Read
	var name string
	var letters []byte
	at, first := 0, 0 // first: where the name or the qualities that are being read begin

mark:
	if at == len(b) {
		return reads, api.OK, 0
	}
	if b[at] != '@' {
		goto fault
	}
	if len(reads) == api.MaxReads {
		return nil, api.ErrMany, at
	}
	first = at + 1
	at = nameEnd(b, first)
	if at == first || byteAt(b, at) != '\n' {
		goto fault
	}
	name = string(b[first:at])
	at++
	letters = nil

inLetters:
	if c := alphabet.Capital(byteAt(b, at)); c != 0 {
		if len(letters) == api.MaxRead {
			return nil, api.ErrLength, at
		}
		letters = append(letters, c)
		at++
		goto inLetters
	}
	if len(letters) == 0 {
		goto fault
	}
	for _, c := range []byte("\n+\n") {
		if byteAt(b, at) != c {
			goto fault
		}
		at++
	}
	first = at

inQualities:
	if at-first < len(letters) && isQuality(byteAt(b, at)) {
		at++
		goto inQualities
	}
	if at-first < len(letters) || byteAt(b, at) != '\n' {
		return nil, api.ErrQuality, at
	}
	at++
	reads = append(reads, api.Read{Name: name, Letters: string(letters)})
	goto mark

fault:
	return nil, api.ErrFastq, at
}

func isQuality(c byte) bool {
	return 33 <= c && c <= 126
}
