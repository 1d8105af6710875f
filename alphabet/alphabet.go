// Package alphabet: which bytes may stand in texts of letters and in names.
package alphabet

import "bleach/api"

// IsLetter: small letters are none; what reads them asks Capital.
func IsLetter(c byte) bool {
	switch c {
	case 'A', 'C', 'G', 'T', 'N':
		return true
	}
	return false
}

// AreLetters holds of no letters at all, too: who needs some asks for that.
func AreLetters(s string) bool {
	for i := range len(s) {
		if !IsLetter(s[i]) {
			return false
		}
	}
	return true
}

// Capital gives the letter that c stands for in a text that is read, or 0, which is no letter.
func Capital(c byte) byte {
	if 'a' <= c && c <= 'z' {
		c = c - 'a' + 'A'
	}
	if IsLetter(c) {
		return c
	}
	return 0
}

// Complement gives the letter that pairs with c; N pairs with itself, since it may be any.
func Complement(c byte) byte {
	switch c {
	case 'A':
		return 'T'
	case 'C':
		return 'G'
	case 'G':
		return 'C'
	case 'T':
		return 'A'
	}
	return c
}

// IsNameByte goes by bytes, not runes: a name is measured in bytes, and none of them is beyond ASCII.
func IsNameByte(c byte) bool {
	switch {
	case 'a' <= c && c <= 'z', 'A' <= c && c <= 'Z', '0' <= c && c <= '9':
		return true
	}
	return c == '_' || c == '.' || c == '-'
}

func IsName(s string) bool {
	for i := range len(s) {
		if !IsNameByte(s[i]) {
			return false
		}
	}
	return 1 <= len(s) && len(s) <= api.MaxName
}
