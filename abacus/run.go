package abacus

const (
	maxSteps = 3000
	maxKept  = 20000 // outcomes: a bound for memory alone
)

// operation is what a line does, act by act: each takes lists from a pile and puts
// one there. The functions are a row and not within each other, so that an
// operation of operations, however long their chain, needs no deep stack.
type operation struct {
	acts []act
}

// act is one thing that a line does.
type act struct {
	place int // in that line
	do    func(*run)
}

// use is an operation and the list that is given to it, as a text.
type use struct {
	operation *operation
	given     string
}

// outcome is what came out of a use.
type outcome struct {
	items list
	steps int
}

// call is an operation that is being done.
type call struct {
	use    use
	given  list
	next   int // act
	before int // steps that were made ahead of it
}

// run is a line that is being worked out.
type run struct {
	pile  []list
	calls []call // the line's own first, then those within it
	place int    // of what the line itself does now
	steps int
	// Operations of operations can use each other on the same list more often than
	// could ever be done one by one, and make no steps: what came out is kept.
	kept map[use]outcome
}

// workOut answers what a line is worth.
func workOut(line *operation) list {
	r := run{calls: []call{{use: use{operation: line}}}, kept: map[use]outcome{}}
	for r.goOn() {
	}
	return r.take()
}

// goOn does the next act, or leaves a call that has none.
func (r *run) goOn() bool {
	now := &r.calls[len(r.calls)-1]
	acts := now.use.operation.acts
	if now.next == len(acts) {
		return r.leave()
	}
	next := acts[now.next]
	now.next++
	if len(r.calls) == 1 {
		r.place = next.place
	}
	next.do(r)
	return true
}

// enter begins an operation, with the list that is given to it (P7).
func (r *run) enter(o *operation) {
	given := r.take()
	u := use{o, given.text()}
	if done, ok := r.kept[u]; ok {
		r.stepAgain(done.steps)
		r.put(done.items)
		return
	}
	r.calls = append(r.calls, call{use: u, given: given, before: r.steps})
}

// stepAgain counts the steps of a use that is not done again: they count for the line as often as it is used.
func (r *run) stepAgain(steps int) {
	if r.steps+steps > maxSteps {
		r.refuse(ErrSteps)
	}
	r.steps += steps
}

// leave ends a call, and answers whether one is left.
func (r *run) leave() bool {
	last := len(r.calls) - 1
	done := r.calls[last]
	r.calls = r.calls[:last]
	if last == 0 {
		return false
	}
	if len(r.kept) == maxKept {
		clear(r.kept)
	}
	r.kept[done.use] = outcome{r.pile[len(r.pile)-1], r.steps - done.before}
	return true
}

// given answers what is given to the operation that is being done.
func (r *run) given() list { return r.calls[len(r.calls)-1].given }

func (r *run) put(items list) { r.pile = append(r.pile, items) }

func (r *run) take() list {
	last := len(r.pile) - 1
	items := r.pile[last]
	r.pile = r.pile[:last]
	return items
}

// refuse gives the line up, at what it does itself: within an operation that is
// the operation's name (P4).
func (r *run) refuse(errno Errno) { panic(refusal{errno, r.place}) }
