package tzx

import "squeal/api"

// Sound is the first block of which something is wrong beside the others, and
// its class.
func Sound(l []api.Block) (int, api.Errno) {
	loops := nest{begin: loop, end: loopEnd, last: lastOf(l, loopEnd)}
	groups := nest{begin: group, end: groupEnd, last: lastOf(l, groupEnd)}
	for i, b := range l {
		if !loops.fits(i, b.ID) || !groups.fits(i, b.ID) {
			return i, api.ErrLoop
		}
		if !leads(b, i, len(l)) {
			return i, api.ErrRange
		}
	}
	return 0, api.OK
}

// nest is what begins and ends, and isn't in one of its own kind.
type nest struct {
	begin, end int // the IDs of the blocks that begin and end it
	last       int // the number of the last block that ends one
	open       bool
}

// fits goes on to block i, and tells whether it may stand there.
func (n *nest) fits(i, id int) bool {
	switch id {
	case n.begin:
		if n.open || i > n.last {
			return false
		}
		n.open = true
	case n.end:
		if !n.open {
			return false
		}
		n.open = false
	}
	return true
}

// lastOf is the number of the last block of an ID, or -1.
func lastOf(l []api.Block, id int) int {
	for i := len(l) - 1; i >= 0; i-- {
		if l[i].ID == id {
			return i
		}
	}
	return -1
}

// leads tells whether block i of so many leads to blocks alone.
func leads(b api.Block, i, many int) bool {
	// The sum of i and a number may be too great, but not so what lies ahead and
	// behind.
	away := func(n int) bool { return n < -i || n >= many-i }
	switch b.ID {
	case jump, call:
		for _, n := range b.Times {
			if away(n) {
				return false
			}
		}
	case choice:
		for _, item := range b.Items {
			if away(item.N) {
				return false
			}
		}
	}
	return true
}
