// Package abacus works with exact numbers, line by line: see DOC.md.
package abacus

import "abacus/fraction"

// Errno is what a call answers: OK or the reason for a refusal.
type Errno int

const (
	OK       Errno = 0
	ErrLong  Errno = 1  // above a bound
	ErrForm  Errno = 2  // no line, or no number
	ErrDeep  Errno = 3  // too deep
	ErrName  Errno = 4  // a name that is nowhere
	ErrTwice Errno = 5  // a name that is something else already
	ErrMany  Errno = 6  // too many names
	ErrShape Errno = 7  // lists that do not go together, or are too long
	ErrArg   Errno = 8  // a number or sign that may not be
	ErrZero  Errno = 9  // divided by 0
	ErrBig   Errno = 10 // too many digits
	ErrSteps Errno = 11 // too many steps
)

// No number's text is longer: two rows of digits, "~" and "/".
const maxText = 2*maxDigits + 2

// Calc works with two numbers (P3).
func Calc(op string, a string, b string) (string, Errno) {
	if len(a) > maxText || len(b) > maxText {
		return "", ErrForm
	}
	left, leftOK := fraction.Parse(a, maxDigits)
	right, rightOK := fraction.Parse(b, maxDigits)
	if !leftOK || !rightOK {
		return "", ErrForm
	}
	d, ok := dyadOf(op)
	if !ok {
		return "", ErrArg
	}
	result, errno := d.work(left, right)
	if errno != OK {
		return "", errno
	}
	return result.Text(), OK
}

// Session is names. Make it by New.
type Session struct{}

// New makes a session (P2).
func New() *Session { return &Session{} }

// Line does a line (P4 to P8).
func (s *Session) Line(line string) (string, Errno, int) { return "", OK, 0 }
