package abacus_test

import (
	"maps"
	"math/big"
	"math/rand"
	"slices"
	"strings"
	"testing"

	"abacus/abacus"
)

// A random line that is longer than this comes to its end.
const longEnough = 80

// answer is what a piece of a random line is worth, worked out with the library's numbers.
type answer struct {
	items []*big.Rat
	errno abacus.Errno
	place int
}

// scene is what a piece is worked out in.
type scene struct {
	steps *int
	given []*big.Rat // to the operation
}

// piece works out its answer, and counts the steps.
type piece func(in scene) answer

// operation is what a random "def" has made.
type operation struct {
	work   piece
	weight int // how many operations it does in all
}

// An operation that is heavier is not used by others: here each use is worked out one by one.
const tooHeavy = 50

// writer writes a random line, and makes the pieces of it.
type writer struct {
	random     *rand.Rand
	line       string
	names      map[string][]*big.Rat
	operations map[string]operation
	given      string // the name of what is given, in a "def"
	weight     int
}

// TestP5AgainstRationals does random lines in sessions, and works out the same in another way.
func TestP5AgainstRationals(t *testing.T) {
	random := rand.New(rand.NewSource(7))
	seen := map[abacus.Errno]int{}
	for range 200 {
		s := sessionWith(t, "none: iota 0", "forty: iota 40", "half: 1/2", "v: 3 1 2")
		names := map[string][]*big.Rat{"none": {}, "forty": ratsUpTo(40), "half": {big.NewRat(1, 2)}, "v": {big.NewRat(3, 1), big.NewRat(1, 1), big.NewRat(2, 1)}}
		operations := map[string]operation{}
		for range 100 {
			w := &writer{random: random, names: names, operations: operations}
			if random.Intn(6) == 0 {
				defineRandomly(t, s, w)
			} else {
				seen[checkRandomLine(t, s, w)]++
			}
		}
	}
	for _, errno := range []abacus.Errno{abacus.OK, abacus.ErrShape, abacus.ErrArg, abacus.ErrZero, abacus.ErrBig, abacus.ErrSteps} {
		if seen[errno] < 20 {
			t.Errorf("only %d lines answer %d", seen[errno], errno)
		}
	}
}

// defineRandomly: what is given may have the name of a list or of another operation.
func defineRandomly(t *testing.T, s *abacus.Session, w *writer) {
	t.Helper()
	named := w.pick("f", "g", "h")
	w.given = w.pick(slices.DeleteFunc([]string{"f", "g", "h", "v", "x", "p", "p", "p"}, func(text string) bool { return text == named })...)
	for _, text := range []string{"def", named, w.given, ":"} {
		w.write(text)
	}
	whole := w.expr(0)
	if len(w.line) > 120 {
		checkLines(t, s, []lineCase{{w.line, "", abacus.ErrLong, 0}})
		return
	}
	checkLines(t, s, []lineCase{{w.line, "", abacus.OK, 0}})
	w.operations[named] = operation{whole, w.weight + 1}
}

func checkRandomLine(t *testing.T, s *abacus.Session, w *writer) abacus.Errno {
	t.Helper()
	var named string
	if w.random.Intn(4) == 0 {
		named = []string{"v", "w", "x"}[w.random.Intn(3)]
		w.write(named)
		w.write(":")
	}
	whole := w.expr(0)
	if len(w.line) > 120 {
		checkLines(t, s, []lineCase{{w.line, "", abacus.ErrLong, 0}})
		return abacus.ErrLong
	}
	want := whole(scene{steps: new(int)})
	text := ""
	if want.errno == abacus.OK && named == "" {
		text = ratsText(want.items)
	}
	checkLines(t, s, []lineCase{{w.line, text, want.errno, want.place}})
	if want.errno == abacus.OK && named != "" {
		w.names[named] = want.items
	}
	return want.errno
}

// write answers the place; blanks stand where they must, and here and there.
func (w *writer) write(text string) int {
	blanks := 0
	if w.random.Intn(4) == 0 {
		blanks = w.random.Intn(3)
	}
	if w.line != "" && runsOn(w.line[len(w.line)-1], text[0]) {
		blanks++
	}
	w.line += strings.Repeat(" ", blanks)
	place := len(w.line)
	w.line += text
	return place
}

func runsOn(a, b byte) bool {
	letter := func(c byte) bool { return 'a' <= c && c <= 'z' }
	digit := func(c byte) bool { return '0' <= c && c <= '9' }
	return letter(a) && letter(b) || digit(a) && digit(b)
}

func (w *writer) pick(texts ...string) string { return texts[w.random.Intn(len(texts))] }

func (w *writer) expr(open int) piece {
	choice := w.random.Intn(13)
	usable := w.usable()
	if len(w.line) > longEnough {
		return w.operand(open)
	}
	switch choice {
	case 0:
		return w.folded(open, "/")
	case 1, 2:
		return w.folded(open, "\\")
	case 3, 4:
		return w.monad(open)
	case 5:
		return w.operand(open)
	case 6, 7, 8:
		if len(usable) > 0 {
			return w.use(open, w.pick(usable...))
		}
	}
	left := w.operand(open)
	joint := w.pick(append(dyads[:], ",", ",", "#", "#")...)
	place := w.write(joint)
	all := strings.Contains(strings.Join(dyads[:], " "), joint) && w.random.Intn(4) == 0
	if all {
		w.write("@")
	}
	right := w.expr(open)
	return func(in scene) answer {
		b := right(in)
		if b.errno != abacus.OK {
			return b
		}
		a := left(in)
		if a.errno != abacus.OK {
			return a
		}
		items, errno := joined(joint, all, a.items, b.items, in.steps)
		return answerOf(items, errno, place)
	}
}

// usable are the operations that may stand here.
func (w *writer) usable() []string {
	var usable []string
	for _, named := range slices.Sorted(maps.Keys(w.operations)) {
		if named != w.given && (w.given == "" || w.operations[named].weight <= tooHeavy) {
			usable = append(usable, named)
		}
	}
	return usable
}

func (w *writer) use(open int, named string) piece {
	place := w.write(named)
	used := w.operations[named]
	w.weight += used.weight
	given := w.expr(open)
	return func(in scene) answer {
		a := given(in)
		if a.errno != abacus.OK {
			return a
		}
		made := used.work(scene{in.steps, a.items})
		return answerOf(made.items, made.errno, place)
	}
}

func answerOf(items []*big.Rat, errno abacus.Errno, place int) answer {
	if errno != abacus.OK {
		return answer{nil, errno, place}
	}
	return answer{items, abacus.OK, 0}
}

func joined(joint string, all bool, a, b []*big.Rat, steps *int) ([]*big.Rat, abacus.Errno) {
	switch {
	case joint == ",":
		if len(a)+len(b) > 40 {
			return nil, abacus.ErrShape
		}
		return append(slices.Clone(a), b...), abacus.OK
	case joint == "#":
		count, errno := ratCount(a)
		if errno == abacus.OK && count > 0 && len(b) == 0 {
			errno = abacus.ErrShape
		}
		var items []*big.Rat
		for i := 0; errno == abacus.OK && i < count; i++ {
			items = append(items, b[i%len(b)])
		}
		return items, errno
	case all && len(a)*len(b) > 40, !all && len(a) != len(b) && len(a) != 1 && len(b) != 1:
		return nil, abacus.ErrShape
	}
	var items []*big.Rat
	for i, x := range a {
		for j, y := range b {
			if !all && i != j && len(a) != 1 && len(b) != 1 {
				continue
			}
			item, errno := step(joint, x, y, steps)
			if errno != abacus.OK {
				return nil, errno
			}
			items = append(items, item)
		}
	}
	return items, abacus.OK
}

func step(op string, x, y *big.Rat, steps *int) (*big.Rat, abacus.Errno) {
	if *steps == 3000 {
		return nil, abacus.ErrSteps
	}
	*steps++
	z, errno := expectedRat(op, x, y)
	if errno == abacus.OK && (len(new(big.Int).Abs(z.Num()).String()) > maxDigits || len(z.Denom().String()) > maxDigits) {
		return nil, abacus.ErrBig
	}
	return z, errno
}

func (w *writer) folded(open int, sign string) piece {
	op := w.pick("+", "+", "-", "max", w.pick(dyads[:]...))
	place := w.write(op)
	w.write(sign)
	given := w.expr(open)
	return func(in scene) answer {
		a := given(in)
		if a.errno != abacus.OK {
			return a
		}
		if len(a.items) == 0 {
			return answer{nil, abacus.ErrShape, place}
		}
		first := 1
		if sign == "/" {
			first = len(a.items)
		}
		var items []*big.Rat
		for count := first; count <= len(a.items); count++ {
			item, errno := folding(op, a.items[:count], in.steps)
			if errno != abacus.OK {
				return answer{nil, errno, place}
			}
			items = append(items, item)
		}
		return answer{items, abacus.OK, 0}
	}
}

func folding(op string, items []*big.Rat, steps *int) (*big.Rat, abacus.Errno) {
	if len(items) == 1 {
		return items[0], abacus.OK
	}
	right, errno := folding(op, items[1:], steps)
	if errno != abacus.OK {
		return nil, errno
	}
	return step(op, items[0], right, steps)
}

func (w *writer) monad(open int) piece {
	word := w.pick("-", "%", "abs", "iota", "rev", "len")
	place := w.write(word)
	given := w.expr(open)
	return func(in scene) answer {
		a := given(in)
		if a.errno != abacus.OK {
			return a
		}
		items, errno := monadic(word, a.items, in.steps)
		return answerOf(items, errno, place)
	}
}

func monadic(word string, items []*big.Rat, steps *int) ([]*big.Rat, abacus.Errno) {
	switch word {
	case "-":
		return joined("-", true, []*big.Rat{new(big.Rat)}, items, steps)
	case "%":
		return joined("%", true, []*big.Rat{big.NewRat(1, 1)}, items, steps)
	case "iota":
		count, errno := ratCount(items)
		return ratsUpTo(count), errno
	case "len":
		return []*big.Rat{big.NewRat(int64(len(items)), 1)}, abacus.OK
	}
	var result []*big.Rat
	for _, item := range items {
		if word == "rev" {
			result = append([]*big.Rat{item}, result...)
			continue
		}
		if *steps == 3000 {
			return nil, abacus.ErrSteps
		}
		*steps++
		result = append(result, new(big.Rat).Abs(item))
	}
	return result, abacus.OK
}

func (w *writer) operand(open int) piece {
	var items []*big.Rat
	switch kind := w.random.Intn(8); {
	case kind < 2 && open < 8 && len(w.line) <= longEnough:
		w.write("(")
		inner := w.expr(open + 1)
		w.write(")")
		return inner
	case kind < 5:
		name := w.pick(append(slices.Sorted(maps.Keys(w.names)), "forty")...)
		if w.given != "" && w.random.Intn(3) > 0 {
			name = w.given
		}
		w.write(name)
		if name == w.given {
			return func(in scene) answer { return answer{in.given, abacus.OK, 0} }
		}
		items = w.names[name]
	default:
		for range 1 + max(0, w.random.Intn(6)-3) {
			text := w.pick("0", "1", "2", "3", "5", "10", "20", "39", "40", "41", "~1", "~7", "1/2", "~6/4", "99", "100", "99999999999999999999")
			w.write(text)
			item, _ := new(big.Rat).SetString(strings.Replace(text, "~", "-", 1))
			items = append(items, item)
		}
	}
	return func(scene) answer { return answer{items, abacus.OK, 0} }
}

func ratCount(items []*big.Rat) (int, abacus.Errno) {
	if len(items) != 1 {
		return 0, abacus.ErrShape
	}
	if !items[0].IsInt() || items[0].Sign() < 0 || items[0].Cmp(big.NewRat(40, 1)) > 0 {
		return 0, abacus.ErrArg
	}
	return int(items[0].Num().Int64()), abacus.OK
}

func ratsUpTo(count int) []*big.Rat {
	var items []*big.Rat
	for i := range count {
		items = append(items, big.NewRat(int64(i+1), 1))
	}
	return items
}

func ratsText(items []*big.Rat) string {
	var texts []string
	for _, item := range items {
		texts = append(texts, strings.Replace(item.RatString(), "-", "~", 1))
	}
	return strings.Join(texts, " ")
}
