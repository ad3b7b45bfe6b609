package abacus

import "abacus/fraction"

const (
	maxDigits = 60
	maxPower  = 99
)

// dyad is an operation on two numbers.
type dyad int

const (
	plus dyad = iota
	minus
	times
	over
	residue
	power
	below
	above
	same
	lower
	higher
)

func dyadOf(text string) (dyad, bool) {
	switch text {
	case "+":
		return plus, true
	case "-":
		return minus, true
	case "*":
		return times, true
	case "%":
		return over, true
	case "|":
		return residue, true
	case "^":
		return power, true
	case "<":
		return below, true
	case ">":
		return above, true
	case "=":
		return same, true
	case "min":
		return lower, true
	case "max":
		return higher, true
	}
	return 0, false
}

// work answers what the dyad makes of two numbers (P3).
func (d dyad) work(a, b fraction.Fraction) (fraction.Fraction, Errno) {
	result, errno := d.workUnbounded(a, b)
	if errno != OK {
		return fraction.Fraction{}, errno
	}
	if result.Digits() > maxDigits {
		return fraction.Fraction{}, ErrBig
	}
	return result, OK
}

func (d dyad) workUnbounded(a, b fraction.Fraction) (fraction.Fraction, Errno) {
	switch d {
	case plus:
		return fraction.Add(a, b), OK
	case minus:
		return fraction.Subtract(a, b), OK
	case times:
		return fraction.Multiply(a, b), OK
	case over:
		return divide(a, b)
	case residue:
		return leftOver(a, b)
	case power:
		return raise(a, b)
	case below:
		return truth(fraction.Compare(a, b) < 0), OK
	case above:
		return truth(fraction.Compare(a, b) > 0), OK
	case same:
		return truth(fraction.Compare(a, b) == 0), OK
	case lower:
		return pick(fraction.Compare(a, b) <= 0, a, b), OK
	case higher:
		return pick(fraction.Compare(a, b) >= 0, a, b), OK
	}
	return fraction.Fraction{}, ErrArg
}

func divide(a, b fraction.Fraction) (fraction.Fraction, Errno) {
	if b.Sign() == 0 {
		return fraction.Fraction{}, ErrZero
	}
	return fraction.Divide(a, b), OK
}

func leftOver(a, b fraction.Fraction) (fraction.Fraction, Errno) {
	if !a.IsWhole() || !b.IsWhole() {
		return fraction.Fraction{}, ErrArg
	}
	if a.Sign() == 0 {
		return b, OK
	}
	return fraction.Left(a, b), OK
}

func raise(a, b fraction.Fraction) (fraction.Fraction, Errno) {
	exponent, ok := b.WholeWithin(maxPower)
	if !ok {
		return fraction.Fraction{}, ErrArg
	}
	if exponent < 0 {
		if a.Sign() == 0 {
			return fraction.Fraction{}, ErrZero
		}
		a, exponent = fraction.Invert(a), -exponent
	}
	result, ok := fraction.Power(a, exponent, maxDigits)
	if !ok {
		return fraction.Fraction{}, ErrBig
	}
	return result, OK
}

func truth(holds bool) fraction.Fraction {
	return pick(holds, fraction.Whole(1), fraction.Whole(0))
}

func pick(first bool, a, b fraction.Fraction) fraction.Fraction {
	if first {
		return a
	}
	return b
}
