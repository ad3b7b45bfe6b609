package natural

// Divide answers how often b, which must not be 0, goes into a, and what is left.
func Divide(a, b Natural) (quotient, rest Natural) {
	if Compare(a, b) < 0 {
		return Natural{}, a
	}
	if len(b.words) == 1 {
		quotient, left := divideByWord(a, b.words[0])
		return quotient, Small(left)
	}
	return divideByWords(a, b)
}

func divideByWord(a Natural, divisor uint32) (Natural, uint32) {
	quotient := make([]uint32, len(a.words))
	left := uint64(0)
	for i := len(a.words) - 1; i >= 0; i-- {
		left = left<<wordBits | uint64(a.words[i])
		quotient[i] = uint32(left / uint64(divisor))
		left %= uint64(divisor)
	}
	return trimmed(quotient), uint32(left)
}

// divideByWords is long division, one word of the quotient at a time. Both
// numbers are shifted first until the divisor's highest bit is set: only then
// is a guess from the highest words never far off.
func divideByWords(a, b Natural) (Natural, Natural) {
	size := len(b.words)
	shift := emptyBits(b.words[size-1])
	divisor := shiftedUp(b.words, shift)[:size]
	rest := shiftedUp(a.words, shift)
	quotient := make([]uint32, len(rest)-size)
	for i := len(quotient) - 1; i >= 0; i-- {
		part := rest[i : i+size+1]
		guess := guessWord(part, divisor)
		if takeAway(part, divisor, guess) {
			guess--
			putBack(part, divisor)
		}
		quotient[i] = guess
	}
	return trimmed(quotient), trimmed(shiftedDown(rest, shift))
}

// guessWord guesses how often the divisor goes into the part, which is one word
// longer, from their highest words. The guess is right or too high by one.
func guessWord(part, divisor []uint32) uint32 {
	size := len(divisor)
	highest, second := uint64(divisor[size-1]), uint64(divisor[size-2])
	top := uint64(part[size])<<wordBits | uint64(part[size-1])
	guess, left := top/highest, top%highest
again:
	if guess >= wordBase || guess*second > left<<wordBits|uint64(part[size-2]) {
		guess--
		left += highest
		// A left of more than a word would pass the test in any case.
		if left < wordBase {
			goto again
		}
	}
	return uint32(guess)
}

// takeAway takes the divisor away from the part so many times, and tells
// whether that was too often: then the part has wrapped round below 0.
func takeAway(part, divisor []uint32, times uint32) bool {
	size := len(divisor)
	carry := uint64(0)
	for i, word := range divisor {
		carry += uint64(times) * uint64(word)
		taken := uint32(carry)
		carry >>= wordBits
		if part[i] < taken {
			carry++
		}
		part[i] -= taken
	}
	tooOften := uint64(part[size]) < carry
	part[size] -= uint32(carry)
	return tooOften
}

// putBack adds the divisor to the part once; the carry out of the highest word
// undoes the wrap-round of takeAway.
func putBack(part, divisor []uint32) {
	size := len(divisor)
	carry := uint64(0)
	for i, word := range divisor {
		carry += uint64(part[i]) + uint64(word)
		part[i] = uint32(carry)
		carry >>= wordBits
	}
	part[size] += uint32(carry)
}

// emptyBits counts the bits above the highest one that is set; word is not 0.
func emptyBits(word uint32) int {
	count := 0
	for word>>(wordBits-1) == 0 {
		word <<= 1
		count++
	}
	return count
}

// shiftedUp answers one word more than it is given, for the bits that go beyond.
func shiftedUp(words []uint32, shift int) []uint32 {
	shifted := make([]uint32, len(words)+1)
	carry := uint64(0)
	for i, word := range words {
		carry |= uint64(word) << shift
		shifted[i] = uint32(carry)
		carry >>= wordBits
	}
	shifted[len(words)] = uint32(carry)
	return shifted
}

func shiftedDown(words []uint32, shift int) []uint32 {
	shifted := make([]uint32, len(words))
	above := uint64(0)
	for i := len(words) - 1; i >= 0; i-- {
		both := above<<wordBits | uint64(words[i])
		shifted[i] = uint32(both >> shift)
		above = uint64(words[i])
	}
	return shifted
}
