package bits

import "slices"

// wordBits is how many numbers a word tells of.
const wordBits = 64

// What two words become.
const (
	either = iota
	both
	without
)

// bit is k's bit within its word.
func bit(k int) uint64 { return 1 << uint(k%wordBits) }

// hasWord tells whether s has a word for k.
func hasWord(s Set, k int) bool { return k >= 0 && k/wordBits < len(s) }

// word is word i of s, where those that s has not are 0.
func word(s Set, i int) uint64 {
	if i >= len(s) {
		return 0
	}
	return s[i]
}

// one is what the words a and b become.
func one(what int, a, b uint64) uint64 {
	switch what {
	case without:
		b = ^b
		fallthrough // to be without b is to be among all that b has not
	case both:
		return a & b
	default:
		return a | b
	}
}

// joined is n words of what the words of a and b become.
func joined(what int, a, b Set, n int) Set {
	s := make(Set, n)
	for i := range s {
		s[i] = one(what, word(a, i), word(b, i))
	}
	return s
}

// changed is a copy of s, where k's word and k's bit become one word.
func changed(what int, s Set, k int) Set {
	c := slices.Clone(s)
	if hasWord(s, k) {
		c[k/wordBits] = one(what, s[k/wordBits], bit(k))
	}
	return c
}
