package abacus

import "abacus/fraction"

const maxDeep = 8

// expr is a function that works out what a piece of a line is worth.
type expr func(*tally) list

// monad makes a list of the one behind it.
type monad func(t *tally, items list) list

// joint makes a list of those on both sides.
type joint func(t *tally, left, right list) list

// reader turns a line into functions, sign by sign from the left, so that the
// first thing that is wrong gives it up.
type reader struct {
	line  string
	names map[string]list
	sign  sign // the one that is not taken yet
	place int  // behind that sign
	deep  int  // how many parentheses are open
}

// readLine answers the name that the line is to have, or none, and its expr.
func readLine(line string, names map[string]list) (string, expr) {
	r := reader{line: line, names: names}
	r.take()
	named := r.naming()
	whole := r.expr()
	r.takeKind(end)
	return named, whole
}

func (r *reader) take() sign {
	taken := r.sign
	r.sign, r.place = signAt(r.line, r.place)
	return taken
}

func (r *reader) takeKind(k kind) sign {
	if r.sign.kind != k {
		panic(refusal{ErrForm, r.sign.place})
	}
	return r.take()
}

// naming takes the name and the ":" that the line may begin with.
func (r *reader) naming() string {
	ahead := *r
	named := ahead.take()
	if named.kind != name || ahead.sign.kind != colon {
		return ""
	}
	ahead.take()
	*r = ahead
	if _, known := r.names[named.text]; !known && len(r.names) == maxNames {
		panic(refusal{ErrMany, named.place})
	}
	return named.text
}

func (r *reader) expr() expr {
	if work, ok := r.monad(); ok {
		given := r.expr()
		return func(t *tally) list { return work(t, given(t)) }
	}
	left := r.operand()
	join, ok := r.joint()
	if !ok {
		return left
	}
	right := r.expr()
	return func(t *tally) list {
		items := right(t) // ahead of the left side (P5)
		return join(t, left(t), items)
	}
}

// monad takes the monad that an expr may begin with.
func (r *reader) monad() (monad, bool) {
	place := r.sign.place
	switch r.sign.kind {
	case dyadSign:
		return r.dyadMonad(), true
	case absWord:
		r.take()
		return func(t *tally, items list) list { return t.absolute(place, items) }, true
	case iotaWord:
		r.take()
		return func(_ *tally, items list) list { return upTo(place, items) }, true
	case revWord:
		r.take()
		return func(_ *tally, items list) list { return reversed(items) }, true
	case lenWord:
		r.take()
		return func(_ *tally, items list) list { return list{fraction.Whole(uint32(len(items)))} }, true
	}
	return nil, false
}

// dyadMonad takes a dyad at the beginning of an expr, and the "/" or "\" behind it.
func (r *reader) dyadMonad() monad {
	s := r.take()
	d, place := s.dyad, s.place
	switch {
	case r.sign.kind == slash:
		r.take()
		return func(t *tally, items list) list { return t.reduce(d, place, items) }
	case r.sign.kind == backslash:
		r.take()
		return func(t *tally, items list) list { return t.scan(d, place, items) }
	case d == minus:
		return func(t *tally, items list) list { return t.byItem(d, place, list{fraction.Whole(0)}, items) }
	case d == over:
		return func(t *tally, items list) list { return t.byItem(d, place, list{fraction.Whole(1)}, items) }
	}
	panic(refusal{ErrForm, place})
}

// joint takes what may stand between an operand and the expr to its right.
func (r *reader) joint() (joint, bool) {
	d, place := r.sign.dyad, r.sign.place
	switch r.sign.kind {
	case comma:
		r.take()
		return func(_ *tally, left, right list) list { return follow(place, left, right) }, true
	case hash:
		r.take()
		return func(_ *tally, left, right list) list { return repeat(place, left, right) }, true
	case dyadSign:
		r.take()
		if r.sign.kind != at {
			return func(t *tally, left, right list) list { return t.byItem(d, place, left, right) }, true
		}
		r.take()
		return func(t *tally, left, right list) list { return t.allPairs(d, place, left, right) }, true
	}
	return nil, false
}

func (r *reader) operand() expr {
	switch r.sign.kind {
	case number:
		return constant(r.numbers())
	case name:
		return constant(r.known())
	}
	return r.parenthesis()
}

func constant(items list) expr {
	return func(*tally) list { return items }
}

func (r *reader) numbers() list {
	var items list
	for r.sign.kind == number {
		if len(items) == maxItems {
			panic(refusal{ErrShape, r.sign.place})
		}
		items = append(items, r.take().number)
	}
	return items
}

// known takes a name, and answers what it is worth now.
func (r *reader) known() list {
	items, ok := r.names[r.sign.text]
	if !ok {
		panic(refusal{ErrName, r.sign.place})
	}
	r.take()
	return items
}

func (r *reader) parenthesis() expr {
	opened := r.takeKind(open)
	if r.deep == maxDeep {
		panic(refusal{ErrDeep, opened.place})
	}
	r.deep++
	inner := r.expr()
	r.takeKind(shut)
	r.deep--
	return inner
}
