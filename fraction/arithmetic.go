package fraction

import "abacus/natural"

// Negate answers f on the other side of 0.
func Negate(f Fraction) Fraction {
	return Fraction{f.Sign() > 0, f.numerator, f.denominator}
}

// Invert answers 1 divided by f, which must not be 0.
func Invert(f Fraction) Fraction {
	return Fraction{f.below, f.denominator, f.numerator}
}

// Add makes the sum.
func Add(a, b Fraction) Fraction {
	left := natural.Multiply(a.numerator, b.denominator)
	right := natural.Multiply(b.numerator, a.denominator)
	denominator := natural.Multiply(a.denominator, b.denominator)
	if a.below == b.below {
		return lowest(a.below, natural.Add(left, right), denominator)
	}
	if natural.Compare(left, right) < 0 {
		return lowest(b.below, natural.Subtract(right, left), denominator)
	}
	return lowest(a.below, natural.Subtract(left, right), denominator)
}

// Subtract makes the difference.
func Subtract(a, b Fraction) Fraction {
	return Add(a, Negate(b))
}

// Multiply makes the product.
func Multiply(a, b Fraction) Fraction {
	numerator := natural.Multiply(a.numerator, b.numerator)
	denominator := natural.Multiply(a.denominator, b.denominator)
	return lowest(a.below != b.below, numerator, denominator)
}

// Divide answers a divided by b, which must not be 0.
func Divide(a, b Fraction) Fraction {
	return Multiply(a, Invert(b))
}

// Compare answers -1, 0 or 1: a is below b, the same, above.
func Compare(a, b Fraction) int {
	return Subtract(a, b).Sign()
}

// Left answers what is left of b without whole multiples of a: from 0 on
// towards a. Both must be whole, and a not 0.
func Left(a, b Fraction) Fraction {
	_, rest := natural.Divide(b.numerator, a.numerator)
	if !rest.IsZero() && a.below != b.below {
		rest = natural.Subtract(a.numerator, rest)
	}
	return lowest(a.below, rest, natural.Small(1))
}

// Power multiplies 1 by f so many times. It gives up where there are more than
// maxDigits digits above or below: what is as low as it can be stays so in its
// powers, so that no later factor would make them fewer.
func Power(f Fraction, times int, maxDigits int) (Fraction, bool) {
	power := Whole(1)
	for range times {
		power.below = power.below != f.below
		power.numerator = natural.Multiply(power.numerator, f.numerator)
		power.denominator = natural.Multiply(power.denominator, f.denominator)
		if power.Digits() > maxDigits {
			return Fraction{}, false
		}
	}
	return power, true
}
