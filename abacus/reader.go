package abacus

import "abacus/fraction"

const (
	maxDeep  = 8
	maxNames = 12
)

// meaning is what a name is: an operation, or, where that is nil, a list.
type meaning struct {
	operation *operation
	items     list
}

// monad makes a list of the one behind it.
type monad func(w *run, items list) list

// joint makes a list of those on both sides.
type joint func(w *run, left, right list) list

// heading is what a line begins with: nothing, the name that it is to have, or
// with "def" also the name of what is given to it.
type heading struct {
	named, given string
}

func (h heading) defines() bool { return h.given != "" }

// reader turns a line into functions, sign by sign from the left, so that the
// first thing that is wrong gives it up. None of them holds on to the line or the
// names: they keep what the names mean now.
type reader struct {
	line  string
	names map[string]meaning
	given string // the name of what is given, in a "def"
	sign  sign   // the one that is not taken yet
	place int    // behind that sign
	deep  int    // how many parentheses are open
}

func readLine(line string, names map[string]meaning) (heading, *operation) {
	r := reader{line: line, names: names}
	r.take()
	head := r.heading()
	r.given = head.given
	whole := r.expr()
	r.takeKind(end)
	return head, &operation{whole}
}

func (r *reader) take() sign {
	taken := r.sign
	r.sign, r.place = signAt(r.line, r.place)
	return taken
}

func (r *reader) takeKind(k kind) sign {
	if r.sign.kind != k {
		panic(refusal{ErrForm, r.sign.place})
	}
	return r.take()
}

func (r *reader) heading() heading {
	if r.sign.kind == defWord {
		return r.defining()
	}
	return r.naming()
}

// naming takes the name and the ":" that the line may begin with.
func (r *reader) naming() heading {
	ahead := *r
	named := ahead.take()
	if named.kind != name || ahead.sign.kind != colon {
		return heading{}
	}
	ahead.take()
	*r = ahead
	r.mayBecome(named, false)
	return heading{named: named.text}
}

// defining takes "def", both names and the ":". That the names are the same comes
// up at the second one, ahead of all that comes up behind the ":" (P4).
func (r *reader) defining() heading {
	r.takeKind(defWord)
	named := r.takeKind(name)
	given := r.takeKind(name)
	if given.text == named.text {
		panic(refusal{ErrTwice, given.place})
	}
	r.takeKind(colon)
	r.mayBecome(named, true)
	return heading{named.text, given.text}
}

// mayBecome refuses a name that cannot become an operation, or a list.
func (r *reader) mayBecome(named sign, operation bool) {
	now, known := r.names[named.text]
	switch {
	case known && (now.operation != nil) != operation:
		panic(refusal{ErrTwice, named.place})
	case !known && len(r.names) == maxNames:
		panic(refusal{ErrMany, named.place})
	}
}

func (r *reader) expr() []act {
	if own, ok := r.monad(); ok {
		return append(r.expr(), own)
	}
	left := r.operand()
	own, ok := r.joint()
	if !ok {
		return left
	}
	right := r.expr() // done ahead of the left side (P5)
	return append(append(right, left...), own)
}

// monad takes the monad that an expr may begin with.
func (r *reader) monad() (act, bool) {
	place := r.sign.place
	switch r.sign.kind {
	case dyadSign:
		return monadAct(place, r.dyadMonad()), true
	case absWord:
		r.take()
		return monadAct(place, func(w *run, items list) list { return w.absolute(items) }), true
	case iotaWord:
		r.take()
		return monadAct(place, func(w *run, items list) list { return w.upTo(items) }), true
	case revWord:
		r.take()
		return monadAct(place, func(_ *run, items list) list { return reversed(items) }), true
	case lenWord:
		r.take()
		return monadAct(place, func(_ *run, items list) list { return list{fraction.Whole(uint32(len(items)))} }), true
	case name:
		return r.operation()
	}
	return act{}, false
}

func monadAct(place int, work monad) act {
	return act{place, func(w *run) { w.put(work(w, w.take())) }}
}

// operation takes a name, if it is an operation's.
func (r *reader) operation() (act, bool) {
	o := r.names[r.sign.text].operation
	if o == nil || r.sign.text == r.given {
		return act{}, false
	}
	return act{r.take().place, func(w *run) { w.enter(o) }}, true
}

// dyadMonad takes a dyad at the beginning of an expr, and the "/" or "\" behind it.
func (r *reader) dyadMonad() monad {
	s := r.take()
	d := s.dyad
	switch {
	case r.sign.kind == slash:
		r.take()
		return func(w *run, items list) list { return w.reduce(d, items) }
	case r.sign.kind == backslash:
		r.take()
		return func(w *run, items list) list { return w.scan(d, items) }
	case d == minus:
		return func(w *run, items list) list { return w.byItem(d, list{fraction.Whole(0)}, items) }
	case d == over:
		return func(w *run, items list) list { return w.byItem(d, list{fraction.Whole(1)}, items) }
	}
	panic(refusal{ErrForm, s.place})
}

// joint takes what may stand between an operand and the expr to its right.
func (r *reader) joint() (act, bool) {
	d, place := r.sign.dyad, r.sign.place
	switch r.sign.kind {
	case comma:
		r.take()
		return jointAct(place, func(w *run, left, right list) list { return w.follow(left, right) }), true
	case hash:
		r.take()
		return jointAct(place, func(w *run, left, right list) list { return w.repeat(left, right) }), true
	case dyadSign:
		r.take()
		if r.sign.kind != at {
			return jointAct(place, func(w *run, left, right list) list { return w.byItem(d, left, right) }), true
		}
		r.take()
		return jointAct(place, func(w *run, left, right list) list { return w.allPairs(d, left, right) }), true
	}
	return act{}, false
}

func jointAct(place int, work joint) act {
	return act{place, func(w *run) {
		left := w.take() // done last, so it lies above the right side
		right := w.take()
		w.put(work(w, left, right))
	}}
}

func (r *reader) operand() []act {
	switch r.sign.kind {
	case number:
		return []act{constant(r.numbers())}
	case name:
		return []act{r.named()}
	}
	return r.parenthesis()
}

// constant has no place: nothing can be wrong with it.
func constant(items list) act {
	return act{do: func(w *run) { w.put(items) }}
}

func (r *reader) numbers() list {
	var items list
	for r.sign.kind == number {
		if len(items) == maxItems {
			panic(refusal{ErrShape, r.sign.place})
		}
		items = append(items, r.take().number)
	}
	return items
}

// named takes a name that is an operand.
func (r *reader) named() act {
	s := r.take()
	if s.text == r.given {
		return act{do: func(w *run) { w.put(w.given()) }}
	}
	now, known := r.names[s.text]
	if !known {
		panic(refusal{ErrName, s.place})
	}
	return constant(now.items)
}

func (r *reader) parenthesis() []act {
	opened := r.takeKind(open)
	if r.deep == maxDeep {
		panic(refusal{ErrDeep, opened.place})
	}
	r.deep++
	inner := r.expr()
	r.takeKind(shut)
	r.deep--
	return inner
}
