// Package fraction holds exact numbers: how they are written, and their arithmetic.
package fraction

import (
	"strings"

	"abacus/natural"
)

// Fraction is a number as low as it can be. Make it by Parse, Whole or the
// arithmetic: the zero value has no denominator and is no number.
type Fraction struct {
	below       bool // below 0; never of 0 itself
	numerator   natural.Natural
	denominator natural.Natural
}

// Whole makes a whole number from 0 on.
func Whole(n uint32) Fraction {
	return Fraction{false, natural.Small(n), natural.Small(1)}
}

// Parse reads a number's text, in which no row of digits is longer than maxRow.
func Parse(text string, maxRow int) (Fraction, bool) {
	rows, below := strings.CutPrefix(text, "~")
	above, under, divided := strings.Cut(rows, "/")
	if !divided {
		under = "1"
	}
	numerator, aboveOK := parseRow(above, maxRow)
	denominator, underOK := parseRow(under, maxRow)
	if !aboveOK || !underOK || denominator.IsZero() || below && numerator.IsZero() {
		return Fraction{}, false
	}
	return lowest(below, numerator, denominator), true
}

func parseRow(row string, maxRow int) (natural.Natural, bool) {
	if len(row) > maxRow {
		return natural.Natural{}, false
	}
	return natural.Parse(row)
}

// Text shows the number.
func (f Fraction) Text() string {
	text := f.numerator.Text()
	if f.below {
		text = "~" + text
	}
	if !f.IsWhole() {
		text += "/" + f.denominator.Text()
	}
	return text
}

// Digits counts the digits above or below, whichever are more.
func (f Fraction) Digits() int {
	return max(f.numerator.Digits(), f.denominator.Digits())
}

// IsWhole tells whether f is a whole number.
func (f Fraction) IsWhole() bool {
	return f.denominator.IsOne()
}

// Sign answers -1, 0 or 1: f is below 0, 0, above 0.
func (f Fraction) Sign() int {
	if f.numerator.IsZero() {
		return 0
	}
	if f.below {
		return -1
	}
	return 1
}

// WholeWithin answers f as an int, if it is whole and no farther from 0 than the limit.
func (f Fraction) WholeWithin(limit uint32) (int, bool) {
	if !f.IsWhole() || natural.Compare(f.numerator, natural.Small(limit)) > 0 {
		return 0, false
	}
	return f.Sign() * int(f.numerator.LowWord()), true
}

func lowest(below bool, numerator, denominator natural.Natural) Fraction {
	common := natural.Common(numerator, denominator)
	numerator, _ = natural.Divide(numerator, common)
	denominator, _ = natural.Divide(denominator, common)
	return Fraction{below && !numerator.IsZero(), numerator, denominator}
}
