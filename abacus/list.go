package abacus

import (
	"slices"
	"strings"
	"sync"

	"abacus/fraction"
)

const maxItems = 40

// list is what all in a line is worth. It is never changed: names and lists share items.
type list []fraction.Fraction

func (items list) text() string {
	texts := make([]string, len(items))
	for i, item := range items {
		texts[i] = item.Text()
	}
	return strings.Join(texts, " ")
}

// together works out the items of a list at the same time: each is a row of
// numbers with the dyad between. Every item is told how many steps are left when
// all items ahead of it have made theirs, so that none waits for another. If one
// has too few, the line is given up, and what was counted does not matter.
func (r *run) together(d dyad, rows []list) list {
	items := make(list, len(rows))
	errnos := make([]Errno, len(rows))
	var workers sync.WaitGroup
	for i, row := range rows {
		left := maxSteps - r.steps
		r.steps += len(row) - 1
		workers.Add(1)
		go func() {
			defer workers.Done()
			items[i], errnos[i] = between(d, row, left)
		}()
	}
	workers.Wait()
	for _, errno := range errnos {
		// A panic in a worker could not be caught at the face: it is raised here.
		if errno != OK {
			r.refuse(errno)
		}
	}
	return items
}

// between works out a row of numbers with the dyad between, from the right.
func between(d dyad, row list, steps int) (fraction.Fraction, Errno) {
	last := len(row) - 1
	result := row[last]
	for i := last - 1; i >= 0; i-- {
		if steps <= 0 {
			return fraction.Fraction{}, ErrSteps
		}
		steps--
		var errno Errno
		if result, errno = d.work(row[i], result); errno != OK {
			return fraction.Fraction{}, errno
		}
	}
	return result, OK
}

// byItem works with the items of both sides one by one (P6).
func (r *run) byItem(d dyad, left, right list) list {
	if len(left) == 1 {
		left = again(left, len(right))
	} else if len(right) == 1 {
		right = again(right, len(left))
	}
	if len(left) != len(right) {
		r.refuse(ErrShape)
	}
	rows := make([]list, len(left))
	for i := range rows {
		rows[i] = list{left[i], right[i]}
	}
	return r.together(d, rows)
}

// allPairs works with each item of the left side and each of the right one (P6).
func (r *run) allPairs(d dyad, left, right list) list {
	if len(left)*len(right) > maxItems {
		r.refuse(ErrShape)
	}
	var rows []list
	for _, a := range left {
		for _, b := range right {
			rows = append(rows, list{a, b})
		}
	}
	return r.together(d, rows)
}

// reduce puts the dyad between all items (P7).
func (r *run) reduce(d dyad, items list) list {
	if len(items) == 0 {
		r.refuse(ErrShape)
	}
	return r.together(d, []list{items})
}

// scan reduces the first item, the first two, and so on (P7).
func (r *run) scan(d dyad, items list) list {
	if len(items) == 0 {
		r.refuse(ErrShape)
	}
	rows := make([]list, len(items))
	for i := range rows {
		rows[i] = items[:i+1]
	}
	return r.together(d, rows)
}

// absolute takes the higher one of each item and its negation: that is the item
// without its sign, and it makes one step (P5, P7).
func (r *run) absolute(items list) list {
	rows := make([]list, len(items))
	for i, item := range items {
		rows[i] = list{item, fraction.Negate(item)}
	}
	return r.together(higher, rows)
}

func reversed(items list) list {
	items = slices.Clone(items)
	slices.Reverse(items)
	return items
}

// upTo answers the numbers from 1 on (P7).
func (r *run) upTo(items list) list {
	count := r.countIn(items)
	numbers := make(list, count)
	for i := range numbers {
		numbers[i] = fraction.Whole(uint32(i + 1))
	}
	return numbers
}

// follow puts the right side's items behind the left one's (P8).
func (r *run) follow(left, right list) list {
	if len(left)+len(right) > maxItems {
		r.refuse(ErrShape)
	}
	return slices.Concat(left, right)
}

// repeat takes as many of the right side's items as the left side says (P8).
func (r *run) repeat(left, right list) list {
	count := r.countIn(left)
	if count > 0 && len(right) == 0 {
		r.refuse(ErrShape)
	}
	return again(right, count)
}

// countIn answers the only item as a number of items (P7, P8).
func (r *run) countIn(items list) int {
	if len(items) != 1 {
		r.refuse(ErrShape)
	}
	count, ok := items[0].WholeWithin(maxItems)
	if !ok || count < 0 {
		r.refuse(ErrArg)
	}
	return count
}

// again answers so many items, again and again from the first.
func again(items list, count int) list {
	result := make(list, count)
	for i := range result {
		result[i] = items[i%len(items)]
	}
	return result
}
