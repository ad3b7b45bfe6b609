// Package natural holds whole numbers from 0 on, of any length, and their arithmetic.
package natural

import (
	"slices"
	"strconv"
	"strings"
)

// Natural is a whole number from 0 on. Its words are never changed once it is
// made, so that copies may share them.
type Natural struct {
	words []uint32 // the lowest first; the highest is not 0, so 0 has none
}

const (
	wordBits = 32
	wordBase = 1 << wordBits

	// A chunk is the longest row of digits that fits into a word whatever they are.
	chunkDigits = 9
	chunkBase   = 1_000_000_000
)

// Small makes a number of one word.
func Small(n uint32) Natural {
	return trimmed([]uint32{n})
}

// Parse reads digits in base ten. It refuses what has a needless 0 or is no row of digits.
func Parse(row string) (Natural, bool) {
	if row == "" || len(row) > 1 && row[0] == '0' {
		return Natural{}, false
	}
	var words []uint32
	for i := range len(row) {
		if row[i] < '0' || row[i] > '9' {
			return Natural{}, false
		}
		words = timesTenPlus(words, row[i]-'0')
	}
	return Natural{words}, true
}

func timesTenPlus(words []uint32, digit byte) []uint32 {
	carry := uint64(digit)
	for i, word := range words {
		carry += uint64(word) * 10
		words[i] = uint32(carry)
		carry >>= wordBits
	}
	if carry > 0 {
		words = append(words, uint32(carry))
	}
	return words
}

// Text writes the digits in base ten.
func (n Natural) Text() string {
	chunks := n.chunks()
	slices.Reverse(chunks)
	var text strings.Builder
	for i, chunk := range chunks {
		row := strconv.FormatUint(uint64(chunk), 10)
		if i > 0 {
			text.WriteString(strings.Repeat("0", chunkDigits-len(row)))
		}
		text.WriteString(row)
	}
	return text.String()
}

// Digits tells how many digits the text has.
func (n Natural) Digits() int {
	chunks := n.chunks()
	full := len(chunks) - 1
	return full*chunkDigits + len(strconv.FormatUint(uint64(chunks[full]), 10))
}

// chunks splits the digits from the lowest on; there is always one chunk at least.
func (n Natural) chunks() []uint32 {
	rest, chunk := divideByWord(n, chunkBase)
	chunks := []uint32{chunk}
	for !rest.IsZero() {
		rest, chunk = divideByWord(rest, chunkBase)
		chunks = append(chunks, chunk)
	}
	return chunks
}

// IsZero tells whether n is 0.
func (n Natural) IsZero() bool {
	return len(n.words) == 0
}

// IsOne tells whether n is 1.
func (n Natural) IsOne() bool {
	return len(n.words) == 1 && n.words[0] == 1
}

// LowWord is n, if n is that small, and else what is left of it in one word.
func (n Natural) LowWord() uint32 {
	if n.IsZero() {
		return 0
	}
	return n.words[0]
}

// Compare answers -1, 0 or 1: a is below b, the same, above.
func Compare(a, b Natural) int {
	if len(a.words) != len(b.words) {
		return sign(len(a.words) > len(b.words))
	}
	for i := len(a.words) - 1; i >= 0; i-- {
		if a.words[i] != b.words[i] {
			return sign(a.words[i] > b.words[i])
		}
	}
	return 0
}

func sign(above bool) int {
	if above {
		return 1
	}
	return -1
}

// Add makes the sum.
func Add(a, b Natural) Natural {
	if len(a.words) < len(b.words) {
		a, b = b, a
	}
	sum := make([]uint32, len(a.words)+1)
	copy(sum, b.words)
	carry := uint64(0)
	for i, word := range a.words {
		carry += uint64(word) + uint64(sum[i])
		sum[i] = uint32(carry)
		carry >>= wordBits
	}
	sum[len(a.words)] = uint32(carry)
	return trimmed(sum)
}

// Subtract takes b away from a, which must not be below b.
func Subtract(a, b Natural) Natural {
	difference := slices.Clone(a.words)
	borrow := uint64(0)
	for i := range difference {
		taken := borrow
		if i < len(b.words) {
			taken += uint64(b.words[i])
		}
		borrow = 0
		if uint64(difference[i]) < taken {
			borrow = 1
		}
		difference[i] -= uint32(taken)
	}
	return trimmed(difference)
}

// Multiply makes the product.
func Multiply(a, b Natural) Natural {
	product := make([]uint32, len(a.words)+len(b.words))
	for i, left := range a.words {
		carry := uint64(0)
		for j, right := range b.words {
			carry += uint64(left)*uint64(right) + uint64(product[i+j])
			product[i+j] = uint32(carry)
			carry >>= wordBits
		}
		product[i+len(b.words)] = uint32(carry)
	}
	return trimmed(product)
}

// Common is the greatest number that divides both without a rest; of 0 and
// another number it is that other one.
func Common(a, b Natural) Natural {
	for !b.IsZero() {
		_, rest := Divide(a, b)
		a, b = b, rest
	}
	return a
}

func trimmed(words []uint32) Natural {
	for len(words) > 0 && words[len(words)-1] == 0 {
		words = words[:len(words)-1]
	}
	return Natural{words}
}
