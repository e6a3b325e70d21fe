// Package disk: the operations that are done on a disk, one of which may be made to fail.
package disk

import (
	"slices"

	"dealer/api"
)

// Disk keeps the operations that were done.
type Disk struct {
	done  []api.Op
	fails bool
	ahead int // how many operations are done ahead of the one that fails
}

// FailAt lets the operation fail that comes behind n more; none, if n is below 0.
func (d *Disk) FailAt(n int) {
	d.fails, d.ahead = n >= 0, n
}

// Done lists the operations that were done.
func (d *Disk) Done() []api.Op {
	return slices.Clone(d.done)
}

// Do does operations, none behind one that fails, and tells whether all were done.
func (d *Disk) Do(ops ...api.Op) bool {
	for _, o := range ops {
		if d.isToFail() {
			return false
		}
		d.done = append(d.done, o)
	}
	return true
}

// isToFail tells it of the next operation, and counts it.
func (d *Disk) isToFail() bool {
	if !d.fails {
		return false
	}
	if d.ahead == 0 {
		d.fails = false
		return true
	}
	d.ahead--
	return false
}
