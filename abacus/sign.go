package abacus

import (
	"strings"

	"abacus/fraction"
)

const (
	maxShort = 20 // digits of a row in a line
	maxName  = 6  // letters
)

// kind is what a sign of a line is.
type kind int

const (
	end   kind = iota // there is nothing more
	wrong             // what can stand nowhere
	number
	name
	dyadSign
	defWord
	absWord
	iotaWord
	revWord
	lenWord
	colon
	comma
	hash
	at
	slash
	backslash
	open
	shut
)

// sign is a NUMBER, a word or a mark of a line.
type sign struct {
	kind   kind
	place  int
	text   string
	dyad   dyad              // of a dyadSign
	number fraction.Fraction // of a number
}

// signAt reads the first sign from a place on, and answers the place behind it.
func signAt(line string, place int) (sign, int) {
	for place < len(line) && line[place] == ' ' {
		place++
	}
	if place == len(line) {
		return sign{kind: end, place: place}, place
	}
	behind := place + signLength(line[place:])
	s := signOf(line[place:behind])
	s.place = place
	return s, behind
}

func signLength(text string) int {
	switch {
	case isLetter(text[0]):
		return rowLength(text, isLetter)
	case startsNumber(text[0]):
		return numberLength(text)
	}
	return 1
}

// A "/" is the number's only where a digit stands right behind it.
func numberLength(text string) int {
	length := 0
	if text[0] == '~' {
		length = 1
	}
	length += rowLength(text[length:], isDigit)
	if under, divided := strings.CutPrefix(text[length:], "/"); divided && rowLength(under, isDigit) > 0 {
		length += 1 + rowLength(under, isDigit)
	}
	return length
}

func rowLength(text string, belongs func(byte) bool) int {
	for i := range len(text) {
		if !belongs(text[i]) {
			return i
		}
	}
	return len(text)
}

func isLetter(c byte) bool { return 'a' <= c && c <= 'z' }

func isDigit(c byte) bool { return '0' <= c && c <= '9' }

func startsNumber(c byte) bool { return c == '~' || isDigit(c) }

func signOf(text string) sign {
	if d, ok := dyadOf(text); ok {
		return sign{kind: dyadSign, text: text, dyad: d}
	}
	if !startsNumber(text[0]) {
		return sign{kind: kindOf(text), text: text}
	}
	if f, ok := fraction.Parse(text, maxShort); ok {
		return sign{kind: number, text: text, number: f}
	}
	return sign{kind: wrong, text: text}
}

func kindOf(text string) kind {
	switch text {
	case "def":
		return defWord
	case "abs":
		return absWord
	case "iota":
		return iotaWord
	case "rev":
		return revWord
	case "len":
		return lenWord
	case ":":
		return colon
	case ",":
		return comma
	case "#":
		return hash
	case "@":
		return at
	case "/":
		return slash
	case "\\":
		return backslash
	case "(":
		return open
	case ")":
		return shut
	}
	if isLetter(text[0]) && len(text) <= maxName {
		return name
	}
	return wrong
}
