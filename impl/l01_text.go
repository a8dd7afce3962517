package impl

import (
	"iter"
	"strconv"
	"strings"
)

const (
	maxDecDigits = 9
	maxNumBytes  = 4
	checkModulus = 255
)

// DecText is the decimal text of n.
func DecText(n int) string {
	return strconv.Itoa(n)
}

// ReadDec is the number whose DecText is s, or -1.
func ReadDec(s string) int {
	// Counting the digits first keeps the sum below from overflowing.
	if s == "" || len(s) > maxDecDigits {
		return -1
	}
	if s[0] == '0' && len(s) > 1 {
		return -1
	}
	n := 0
	for i := range len(s) {
		if s[i] < '0' || s[i] > '9' {
			return -1
		}
		n = n*10 + int(s[i]-'0')
	}
	return n
}

// Lines are the parts of s between newlines.
func Lines(s string) []string {
	if s == "" {
		return nil
	}
	// Split would answer with pieces of the argument's own memory.
	return strings.Split(strings.Clone(s), "\n")
}

// Words are the parts of s between blanks and bytes 9.
func Words(s string) []string {
	var words []string
	for word := range tellWords(strings.Clone(s)) {
		words = append(words, word)
	}
	return words
}

// tellWords hands the words of s on, in order, for as long as they are wanted.
func tellWords(s string) iter.Seq[string] {
	return func(yield func(string) bool) {
		start := 0
	telling:
		for end := 0; end <= len(s); end++ {
			switch {
			case end < len(s) && !isGap(s[end]):
				continue
			case start == end:
				// Two gaps in a row have no word between them.
			case !yield(s[start:end]):
				break telling
			}
			start = end + 1
		}
	}
}

func isGap(b byte) bool {
	return b == ' ' || b == '\t'
}

// PutNum writes the lowest bytes of n, the highest one first.
func PutNum(n int, bytes int) string {
	if n < 0 || !isByteCount(bytes) {
		return ""
	}
	put := make([]byte, bytes)
	for i := bytes - 1; i >= 0; i-- {
		put[i] = byte(n)
		n >>= 8
	}
	return string(put)
}

// GetNum reads the number that PutNum wrote at a place of s, or tells -1.
func GetNum(s string, at int, bytes int) int {
	// The last place is reckoned from the length, as at and bytes added may overflow.
	if !isByteCount(bytes) || at < 0 || at > len(s)-bytes {
		return -1
	}
	n := 0
	for i := range bytes {
		n = n<<8 | int(s[at+i])
	}
	return n
}

func isByteCount(bytes int) bool {
	return bytes >= 1 && bytes <= maxNumBytes
}

// Check is a sum over s that depends on the bytes and on their order.
func Check(s string) int {
	a, b := 0, 0
	for i := range len(s) {
		a = (a + int(s[i])) % checkModulus
		b = (b + a) % checkModulus
	}
	return 256*b + a
}
