// Package abacus works with exact numbers, line by line: see DOC.md.
package abacus

import (
	"strings"

	"abacus/fraction"
)

// Errno is what a call answers: OK or the reason for a refusal.
type Errno int

const (
	OK       Errno = 0
	ErrLong  Errno = 1  // above a bound
	ErrForm  Errno = 2  // no line, or no number
	ErrDeep  Errno = 3  // too deep
	ErrName  Errno = 4  // a name that is nowhere
	ErrTwice Errno = 5  // a name that is something else already
	ErrMany  Errno = 6  // too many names
	ErrShape Errno = 7  // lists that do not go together, or are too long
	ErrArg   Errno = 8  // a number or sign that may not be
	ErrZero  Errno = 9  // divided by 0
	ErrBig   Errno = 10 // too many digits
	ErrSteps Errno = 11 // too many steps
)

// No number's text is longer: two rows of digits, "~" and "/".
const maxText = 2*maxDigits + 2

// Calc works with two numbers (P3).
func Calc(op string, a string, b string) (string, Errno) {
	if len(a) > maxText || len(b) > maxText {
		return "", ErrForm
	}
	left, leftOK := fraction.Parse(a, maxDigits)
	right, rightOK := fraction.Parse(b, maxDigits)
	if !leftOK || !rightOK {
		return "", ErrForm
	}
	d, ok := dyadOf(op)
	if !ok {
		return "", ErrArg
	}
	result, errno := d.work(left, right)
	if errno != OK {
		return "", errno
	}
	return result.Text(), OK
}

const maxLine = 120 // bytes

// Session is names, and what they mean. Make it by New.
type Session struct {
	names map[string]meaning
}

// New makes a session (P2).
func New() *Session { return &Session{map[string]meaning{}} }

// Line does a line (P4 to P8).
func (s *Session) Line(line string) (text string, errno Errno, place int) {
	if len(line) > maxLine {
		return "", ErrLong, 0
	}
	defer func() {
		if given := recover(); given != nil {
			refused := refusalIn(given)
			text, errno, place = "", refused.errno, refused.place
		}
	}()
	head, whole := readLine(line, s.names)
	if head.defines() {
		s.keep(head.named, meaning{operation: whole})
		return "", OK, 0
	}
	items := workOut(whole)
	if head.named == "" {
		return items.text(), OK, 0
	}
	s.keep(head.named, meaning{items: items})
	return "", OK, 0
}

// keep takes a copy of the name: it is a piece of the line, which is not to be kept.
func (s *Session) keep(named string, is meaning) { s.names[strings.Clone(named)] = is }

// refusal is what a line is given up with, wherever it turns out to be wrong.
type refusal struct {
	errno Errno
	place int
}

// refusalIn holds because nothing else is raised while a line is done.
func refusalIn(given any) refusal { return given.(refusal) }
