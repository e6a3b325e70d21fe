package dealer_test

import (
	"math"
	"testing"

	"dealer/api"
	"dealer/dealer"
)

func TestP5Open(t *testing.T) {
	d := dealer.Open()
	if d == nil {
		t.Fatal("Open() = nil")
	}
	if len(d.Classes()) != 0 || len(d.Leases()) != 0 || len(d.Disk()) != 0 {
		t.Errorf("a new dealer has the classes %v, the leases %v, the operations %#v", d.Classes(), d.Leases(), d.Disk())
	}
	refuses(t, d, status(scalar), api.ErrClass)
}

func TestP5Shares(t *testing.T) {
	for _, c := range []struct {
		c             api.Class
		draws         []uint64
		first, second []uint64
	}{
		{scalar, []uint64{3, 5, 1, 1, 1}, []uint64{1, 1, 1}, []uint64{2, 4, 14}},
		{scalar, []uint64{3, 5, 4, 0, 0}, []uint64{4, 0, 0}, []uint64{top, 5, 15}},
		{scalar, []uint64{1 << 32, 1 << 32, 0, 0, 1}, []uint64{0, 0, 1}, []uint64{1 << 32, 1 << 32, top}},
		{bits(1), []uint64{12, 10, 1, 2, 4}, []uint64{1, 2, 4}, []uint64{13, 8, 12}},
		{bits(3), []uint64{1, 3, top, 1, 6, 9, 0, 0, 0, 0, 0, 0, 0, 0, top}, []uint64{0, 0, 0, 0, 0, 0, 0, 0, top}, []uint64{1, 3, top, 1, 6, 9, 1, 2, top - 9}},
		{matrix(1, 1, 1), []uint64{3, 5, 1, 1, 1}, []uint64{1, 1, 1}, []uint64{2, 4, 14}},
		{matrix(1, 2, 1), []uint64{1, 2, 3, 4, 0, 0, 0, 0, 0}, []uint64{0, 0, 0, 0, 0}, []uint64{1, 2, 3, 4, 11}},
		{matrix(2, 3, 1), []uint64{1, 2, 3, 4, 5, 6, 7, 8, 9, 1, 1, 1, 1, 1, 1, 2, 2, 2, 50, 123}, []uint64{1, 1, 1, 1, 1, 1, 2, 2, 2, 50, 123}, []uint64{0, 1, 2, 3, 4, 5, 5, 6, 7, 0, top}},
		{matrix(2, 1, 3), []uint64{2, 3, 5, 7, 11, 0, 0, 0, 0, 0, 0, 0, 0, 0, 0, 1}, []uint64{0, 0, 0, 0, 0, 0, 0, 0, 0, 0, 1}, []uint64{2, 3, 5, 7, 11, 10, 14, 22, 15, 21, 32}},
	} {
		d := dealer.Open()
		refill(t, d, c.c, c.draws, api.OK)
		answers(t, d, lease(1, 1, c.c, 1), 0, 1)
		answers(t, d, fetch(1, c.c, 0, 1, 0), 0, 1, c.first...)
		answers(t, d, fetch(1, c.c, 0, 1, 1), 0, 1, c.second...)
	}
}

// TestP5Order: the triples of one Refill, and those of the next, are numbered in the order of their draws.
func TestP5Order(t *testing.T) {
	d := stocked(t, 17)
	answers(t, d, status(scalar), 0, 17)
	answers(t, d, lease(1, 1, scalar, 17), 0, 17)
	for party := range 2 {
		answers(t, d, fetch(1, scalar, 0, 17, party), 0, 17, sharesOf(0, 17, party)...)
	}
}

func TestP5NoClass(t *testing.T) {
	d := dealer.Open()
	for _, c := range []api.Class{
		{}, {Kind: -1, M: 1, K: 1, N: 1}, {Kind: 3, M: 1, K: 1, N: 1}, {Kind: math.MinInt, M: 1, K: 1, N: 1}, {Kind: 256, M: 1, K: 1, N: 1},
		{Kind: api.Scalar, M: 2, K: 1, N: 1}, {Kind: api.Scalar, M: 1, K: 2, N: 1}, {Kind: api.Scalar, M: 1, K: 1, N: 2}, {Kind: api.Scalar, M: 0, K: 1, N: 1}, {Kind: api.Scalar, M: 1, K: 0, N: 1}, {Kind: api.Scalar, M: 1, K: 1, N: 0},
		matrix(0, 1, 1), matrix(1, 0, 1), matrix(1, 1, 0), matrix(4, 1, 1), matrix(1, 4, 1), matrix(1, 1, 4), matrix(-1, -1, 1), matrix(math.MaxInt, 2, 1), matrix(1<<32, 1<<32, 1),
		bits(0), bits(4), bits(-1), bits(math.MinInt), {Kind: api.Bits, M: 1, K: 2, N: 1}, {Kind: api.Bits, M: 1, K: 1, N: 2}, {Kind: api.Bits, M: 1, K: 0, N: 1},
	} {
		for _, draws := range [][]uint64{nil, make([]uint64, 5), make([]uint64, 7)} {
			refill(t, d, c, draws, api.ErrClass)
		}
		if c.M >= 0 && c.M < 256 && c.Kind >= 0 && c.Kind < 256 {
			refuses(t, d, status(c), api.ErrClass)
		}
	}
}

// allClasses are all the classes that there can be.
func allClasses() []api.Class {
	l := []api.Class{scalar}
	for m := 1; m <= api.MaxSide; m++ {
		l = append(l, bits(m))
		for k := 1; k <= api.MaxSide; k++ {
			for n := 1; n <= api.MaxSide; n++ {
				l = append(l, matrix(m, k, n))
			}
		}
	}
	return l
}

func TestP5Draws(t *testing.T) {
	for _, c := range allClasses() {
		each := drawsOf(c)
		for n := range each*(api.MaxRefill+2) + 1 {
			d, count := dealer.Open(), n/each
			if n%each != 0 || count < 1 || count > api.MaxRefill {
				refill(t, d, c, make([]uint64, n), api.ErrDraws)
				refuses(t, d, status(c), api.ErrClass)
				continue
			}
			refill(t, d, c, make([]uint64, n), api.OK)
			answers(t, d, status(c), 0, count)
		}
	}
	refill(t, dealer.Open(), scalar, nil, api.ErrDraws)
}

func TestP5FullOfClasses(t *testing.T) {
	d := dealer.Open()
	all := allClasses()
	for _, c := range all[:api.MaxClasses] {
		refill(t, d, c, make([]uint64, drawsOf(c)), api.OK)
	}
	for _, c := range all[api.MaxClasses:] {
		refill(t, d, c, make([]uint64, drawsOf(c)), api.ErrFull)
		refill(t, d, c, make([]uint64, drawsOf(c)+1), api.ErrDraws)
		refuses(t, d, status(c), api.ErrClass)
	}
	refill(t, d, matrix(4, 1, 1), nil, api.ErrClass)
	for _, c := range all[:api.MaxClasses] {
		refill(t, d, c, make([]uint64, drawsOf(c)), api.OK)
		answers(t, d, status(c), 0, 2)
	}
}

func TestP5FullOfTriples(t *testing.T) {
	d := stocked(t, api.MaxMade-5)
	refill(t, d, scalar, numbered(0, 6), api.ErrFull)
	refill(t, d, scalar, numbered(0, api.MaxRefill), api.ErrFull)
	answers(t, d, status(scalar), 0, api.MaxMade-5)
	refill(t, d, scalar, numbered(api.MaxMade-5, 5), api.OK)
	answers(t, d, status(scalar), 0, api.MaxMade)
	refill(t, d, scalar, numbered(0, 1), api.ErrFull)
	refill(t, d, scalar, make([]uint64, 4), api.ErrDraws)
	refill(t, d, bits(1), make([]uint64, 60), api.OK)

	// What is leased is made all the same: leases give no room.
	for i := range 5 {
		answers(t, d, lease(1, i, scalar, api.MaxCount), i*api.MaxCount, api.MaxCount)
	}
	refill(t, d, scalar, numbered(0, 1), api.ErrFull)
	answers(t, d, fetch(1, scalar, api.MaxMade-1, 1, 1), api.MaxMade-1, 1, sharesOf(api.MaxMade-1, 1, 1)...)
}
