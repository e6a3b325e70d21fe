package dealer_test

import (
	"testing"

	"dealer/api"
	"dealer/dealer"
)

func TestP6Lease(t *testing.T) {
	d := stocked(t, 3)
	answers(t, d, lease(7, 1, scalar, 2), 0, 2)
	answers(t, d, lease(7, 1, scalar, 2), 0, 2)
	answers(t, d, status(scalar), 2, 3)
	refuses(t, d, lease(7, 1, scalar, 1), api.ErrConflict)
	refuses(t, d, lease(7, 2, scalar, 2), api.ErrFew)
	answers(t, d, lease(7, 2, scalar, 1), 2, 1)
	answers(t, d, status(scalar), 3, 3)
	refuses(t, d, lease(8, 1, scalar, 1), api.ErrFew)
	refill(t, d, scalar, numbered(3, 2), api.OK)
	answers(t, d, lease(8, 1, scalar, 2), 3, 2)
	answers(t, d, lease(7, 1, scalar, 2), 0, 2)
}

// TestP6LeaseNames: a lease is known by its Session and its Id together.
func TestP6LeaseNames(t *testing.T) {
	d := stocked(t, 12)
	for i, name := range [][2]int{{0, 0}, {0, 1}, {1, 0}, {1, 1}, {api.MaxNumber, api.MaxNumber}, {api.MaxNumber, 0}} {
		answers(t, d, lease(name[0], name[1], scalar, 2), 2*i, 2)
		answers(t, d, lease(name[0], name[1], scalar, 2), 2*i, 2)
	}
}

// TestP6LeaseClasses: each class has triples and leases of its own, but the names of leases are the same for all.
func TestP6LeaseClasses(t *testing.T) {
	d := stocked(t, 3)
	refill(t, d, bits(1), make([]uint64, 10), api.OK)
	refill(t, d, matrix(1, 1, 1), make([]uint64, 10), api.OK)
	answers(t, d, lease(1, 1, scalar, 1), 0, 1)
	answers(t, d, lease(1, 2, bits(1), 2), 0, 2)
	answers(t, d, lease(1, 3, matrix(1, 1, 1), 1), 0, 1)
	refuses(t, d, lease(1, 1, bits(1), 1), api.ErrConflict)
	refuses(t, d, lease(1, 4, bits(1), 1), api.ErrFew)
	answers(t, d, status(scalar), 1, 3)
	answers(t, d, status(bits(1)), 2, 2)
	answers(t, d, status(matrix(1, 1, 1)), 1, 2)
}

// TestP6LeaseConflict: a lease that is there is looked at ahead of every other error.
func TestP6LeaseConflict(t *testing.T) {
	d := stocked(t, 3)
	answers(t, d, lease(1, 1, scalar, 3), 0, 3)
	for _, r := range []api.Request{
		lease(1, 1, scalar, 2), lease(1, 1, scalar, 4), lease(1, 1, scalar, 0), lease(1, 1, scalar, api.MaxNumber),
		lease(1, 1, bits(1), 3), lease(1, 1, matrix(1, 1, 1), 3), lease(1, 1, api.Class{Kind: 200}, 3), lease(1, 1, api.Class{}, 0),
	} {
		refuses(t, d, r, api.ErrConflict)
	}
	answers(t, d, lease(1, 1, scalar, 3), 0, 3)
	answers(t, d, status(scalar), 3, 3)
}

func TestP6LeaseCount(t *testing.T) {
	d := stocked(t, 100)
	for _, n := range []int{0, api.MaxCount + 1, api.MaxNumber} {
		refuses(t, d, lease(1, 1, scalar, n), api.ErrCount)
		refuses(t, d, lease(1, 1, bits(1), n), api.ErrClass)
	}
	answers(t, d, status(scalar), 0, 100)
	answers(t, d, lease(1, 1, scalar, api.MaxCount), 0, api.MaxCount)
	answers(t, d, lease(1, 2, scalar, 1), api.MaxCount, 1)
	refuses(t, stocked(t, 1), lease(1, 1, scalar, api.MaxCount+1), api.ErrCount)
	refuses(t, stocked(t, 1), lease(1, 1, scalar, api.MaxCount), api.ErrFew)
}

func TestP6LeaseClass(t *testing.T) {
	d := stocked(t, 1)
	for _, c := range []api.Class{bits(1), matrix(1, 1, 1), {}, {Kind: 255, M: 255, K: 255, N: 255}} {
		for _, n := range []int{0, 1, 2, api.MaxNumber} {
			refuses(t, d, lease(1, 1, c, n), api.ErrClass)
		}
	}
	refuses(t, dealer.Open(), lease(0, 0, scalar, 1), api.ErrClass)
}

func TestP6LeaseFull(t *testing.T) {
	d := stocked(t, 60)
	refill(t, d, bits(1), make([]uint64, 5), api.OK)
	for i := range api.MaxLeases {
		answers(t, d, lease(i, 5, scalar, 1), i, 1)
	}
	refuses(t, d, lease(0, 6, scalar, 1), api.ErrFull)
	refuses(t, d, lease(0, 6, bits(1), 1), api.ErrFull)
	refuses(t, d, lease(0, 6, scalar, 31), api.ErrFew)
	refuses(t, d, lease(0, 6, scalar, 0), api.ErrCount)
	refuses(t, d, lease(0, 6, bits(2), 1), api.ErrClass)
	refuses(t, d, lease(0, 5, scalar, 2), api.ErrConflict)
	for i := range api.MaxLeases {
		answers(t, d, lease(i, 5, scalar, 1), i, 1)
	}
	answers(t, d, status(scalar), api.MaxLeases, 60)
	answers(t, d, status(bits(1)), 0, 1)
}

func TestP6Fetch(t *testing.T) {
	d := stocked(t, 60)
	answers(t, d, lease(7, 1, scalar, 3), 0, 3)
	answers(t, d, lease(7, 2, scalar, 40), 3, 40)
	answers(t, d, lease(8, 1, scalar, 2), 43, 2)
	answers(t, d, lease(7, 3, scalar, 5), 45, 5)
	for party := range 2 {
		// Within one lease, over two that lie side by side, the most of a Fetch, and again.
		for _, c := range [][2]int{{0, 1}, {0, 3}, {1, 1}, {2, 2}, {0, 40}, {3, 40}, {42, 1}, {45, 5}, {49, 1}, {0, 1}} {
			answers(t, d, fetch(7, scalar, c[0], c[1], party), c[0], c[1], sharesOf(c[0], c[1], party)...)
		}
		answers(t, d, fetch(8, scalar, 43, 2, party), 43, 2, sharesOf(43, 2, party)...)
	}
	answers(t, d, status(scalar), 50, 60)
}

func TestP6FetchLease(t *testing.T) {
	d := stocked(t, 60)
	refill(t, d, bits(1), make([]uint64, 10), api.OK)
	answers(t, d, lease(7, 1, scalar, 3), 0, 3)
	answers(t, d, lease(8, 1, scalar, 2), 3, 2)
	answers(t, d, lease(7, 2, scalar, 5), 5, 5)
	for _, r := range []api.Request{
		fetch(7, scalar, 2, 2, 0), fetch(7, scalar, 3, 1, 0), fetch(7, scalar, 4, 2, 0), fetch(7, scalar, 0, 10, 1), // another session's are among them
		fetch(7, scalar, 9, 2, 0), fetch(7, scalar, 10, 1, 0), fetch(8, scalar, 3, 40, 1), // not leased
		fetch(7, scalar, 60, 1, 0), fetch(7, scalar, api.MaxNumber, 1, 0), fetch(7, scalar, api.MaxNumber, 40, 1), fetch(7, scalar, api.MaxNumber-20, 40, 1), // not made
		fetch(9, scalar, 0, 1, 0), fetch(1, scalar, 0, 1, 0), fetch(0, scalar, 0, 1, 0), fetch(2, scalar, 5, 1, 0), // a session without leases, and Ids
		fetch(7, bits(1), 0, 1, 0), fetch(8, bits(1), 0, 2, 1), // leased of another class
	} {
		refuses(t, d, r, api.ErrLease)
	}
}

func TestP6FetchErrors(t *testing.T) {
	d := stocked(t, 60)
	answers(t, d, lease(7, 1, scalar, 40), 0, 40)
	answers(t, d, lease(7, 2, scalar, 20), 40, 20)
	for _, n := range []int{0, api.MaxCount + 1, api.MaxNumber} {
		refuses(t, d, fetch(7, scalar, 0, n, 0), api.ErrCount)
		refuses(t, d, fetch(9, scalar, 99, n, 2), api.ErrCount)
		refuses(t, d, fetch(7, bits(1), 0, n, 2), api.ErrClass)
	}
	for _, party := range []int{2, 3, 128, 255} {
		refuses(t, d, fetch(7, scalar, 0, 1, party), api.ErrParty)
		refuses(t, d, fetch(9, scalar, 99, 1, party), api.ErrParty)
		refuses(t, d, fetch(7, bits(1), 0, 1, party), api.ErrClass)
	}
	refuses(t, d, fetch(7, api.Class{}, 0, 1, 0), api.ErrClass)
	refuses(t, dealer.Open(), fetch(7, scalar, 0, 1, 0), api.ErrClass)
}

func TestP6Status(t *testing.T) {
	d := stocked(t, 4)
	answers(t, d, status(scalar), 0, 4)
	answers(t, d, lease(1, 1, scalar, 3), 0, 3)
	answers(t, d, status(scalar), 3, 4)
	refill(t, d, scalar, numbered(4, 12), api.OK)
	answers(t, d, status(scalar), 3, 16)
	answers(t, d, status(scalar), 3, 16)
	for _, c := range []api.Class{bits(1), matrix(1, 1, 1), {}, {Kind: 255, M: 255, K: 255, N: 255}} {
		refuses(t, d, status(c), api.ErrClass)
	}
}
