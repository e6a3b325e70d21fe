package triple

import "dealer/api"

// arithmetic is what the making of triples and shares asks of numbers, be they words or bits.
type arithmetic interface {
	plus(x, y uint64) uint64
	minus(x, y uint64) uint64
	times(x, y uint64) uint64
}

// words are whole numbers that wrap around.
type words struct{}

func (words) plus(x, y uint64) uint64  { return x + y }
func (words) minus(x, y uint64) uint64 { return x - y }
func (words) times(x, y uint64) uint64 { return x * y }

// bits are 64 numbers side by side, each 0 or 1: what is added is so taken away, too.
type bits struct{}

func (bits) plus(x, y uint64) uint64  { return x ^ y }
func (bits) minus(x, y uint64) uint64 { return x ^ y }
func (bits) times(x, y uint64) uint64 { return x & y }

func arithmeticOf(c api.Class) arithmetic {
	if c.Kind == api.Bits {
		return bits{}
	}
	return words{}
}
