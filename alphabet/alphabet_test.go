package alphabet

import (
	"strings"
	"testing"
)

func TestLettersOfAllBytes(t *testing.T) {
	for n := range 256 {
		c := byte(n)
		is := strings.IndexByte("ACGTN", c) >= 0
		if IsLetter(c) != is {
			t.Errorf("IsLetter(%q) = %v", c, !is)
		}
		capital := byte(0)
		if i := strings.IndexByte("ACGTNacgtn", c); i >= 0 {
			capital = "ACGTN"[i%5]
		}
		if got := Capital(c); got != capital {
			t.Errorf("Capital(%q) = %q, want %q", c, got, capital)
		}
	}
}

func TestAreLetters(t *testing.T) {
	for s, want := range map[string]bool{"": true, "A": true, "ACGTN": true, "a": false, "xACGT": false, "ACxGT": false, "ACGTx": false, "ACGÅ": false} {
		if got := AreLetters(s); got != want {
			t.Errorf("AreLetters(%q) = %v", s, got)
		}
	}
}

func TestComplement(t *testing.T) {
	for i, c := range []byte("ACGTN") {
		if got := Complement(c); got != "TGCAN"[i] {
			t.Errorf("Complement(%q) = %q", c, got)
		}
	}
}

func TestNameBytesOfAllBytes(t *testing.T) {
	const may = "ABCDEFGHIJKLMNOPQRSTUVWXYZabcdefghijklmnopqrstuvwxyz0123456789_.-"
	for n := range 256 {
		c := byte(n)
		if want := strings.IndexByte(may, c) >= 0; IsNameByte(c) != want {
			t.Errorf("IsNameByte(%q) = %v", c, !want)
		}
	}
}

func TestIsName(t *testing.T) {
	long := strings.Repeat("n", 32)
	for s, want := range map[string]bool{"": false, "a": true, "chr-2.A_9": true, long: true, long + "n": false, " a": false, "a b": false, "a\n": false, "ä": false} {
		if got := IsName(s); got != want {
			t.Errorf("IsName(%q) = %v", s, got)
		}
	}
}
