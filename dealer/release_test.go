package dealer_test

import (
	"testing"

	"dealer/api"
)

func TestP6Release(t *testing.T) {
	d := stocked(t, 6)
	answers(t, d, lease(7, 1, scalar, 2), 0, 2)
	answers(t, d, lease(7, 2, scalar, 3), 2, 3)
	answers(t, d, release(7, 2), 2, 3)
	refuses(t, d, release(7, 2), api.ErrLease)
	answers(t, d, release(7, 1), 0, 2)
	refuses(t, d, release(7, 1), api.ErrLease)
	// What is released is leased all the same.
	answers(t, d, status(scalar), 5, 6)
	answers(t, d, lease(8, 1, scalar, 1), 5, 1)
	refuses(t, d, lease(8, 2, scalar, 1), api.ErrFew)
}

// TestP6ReleaseNames: a lease is released by its Session and its Id together.
func TestP6ReleaseNames(t *testing.T) {
	d := stocked(t, 6)
	for _, r := range []api.Request{release(0, 0), release(7, 1), release(api.MaxNumber, api.MaxNumber)} {
		refuses(t, d, r, api.ErrLease)
	}
	answers(t, d, lease(7, 1, scalar, 2), 0, 2)
	answers(t, d, lease(1, 7, scalar, 1), 2, 1)
	answers(t, d, lease(api.MaxNumber, 0, scalar, 1), 3, 1)
	for _, r := range []api.Request{release(7, 7), release(1, 1), release(7, 0), release(0, api.MaxNumber)} {
		refuses(t, d, r, api.ErrLease)
	}
	for _, r := range []api.Request{release(-1, 1), release(7, -1), release(7, api.MaxNumber+1), {Kind: api.ReleaseKind, Session: 7, Id: 1, Count: 2}, {Kind: api.ReleaseKind, Session: 7, Id: 1, Class: scalar}} {
		refuses(t, d, r, api.ErrMalformed)
	}
	answers(t, d, release(1, 7), 2, 1)
	answers(t, d, release(api.MaxNumber, 0), 3, 1)
	answers(t, d, fetch(7, scalar, 0, 2, 0), 0, 2, sharesOf(0, 2, 0)...)
}

// TestP6ReleasedFetch: no triple of a released lease is handed out, by itself or among others.
func TestP6ReleasedFetch(t *testing.T) {
	d := stocked(t, 6)
	for i := range 3 {
		answers(t, d, lease(7, i, scalar, 2), 2*i, 2)
	}
	answers(t, d, release(7, 1), 2, 2)
	for party := range 2 {
		for _, c := range [][2]int{{2, 1}, {3, 1}, {2, 2}, {1, 2}, {3, 2}, {0, 6}} {
			refuses(t, d, fetch(7, scalar, c[0], c[1], party), api.ErrLease)
		}
		for _, c := range [][2]int{{0, 2}, {4, 2}, {1, 1}} {
			answers(t, d, fetch(7, scalar, c[0], c[1], party), c[0], c[1], sharesOf(c[0], c[1], party)...)
		}
	}
	refuses(t, d, fetch(7, scalar, 2, 1, 2), api.ErrParty)
	refuses(t, d, fetch(7, scalar, 2, 0, 0), api.ErrCount)
}

// TestP6ReleasedLease: a released lease keeps its name, and is answered as when it was made; it is not leased again by that.
func TestP6ReleasedLease(t *testing.T) {
	d := stocked(t, 6)
	answers(t, d, lease(7, 1, scalar, 2), 0, 2)
	answers(t, d, release(7, 1), 0, 2)
	for range 2 {
		answers(t, d, lease(7, 1, scalar, 2), 0, 2)
		refuses(t, d, lease(7, 1, scalar, 3), api.ErrConflict)
		refuses(t, d, lease(7, 1, bits(1), 2), api.ErrConflict)
		refuses(t, d, fetch(7, scalar, 0, 1, 0), api.ErrLease)
		refuses(t, d, release(7, 1), api.ErrLease)
		answers(t, d, status(scalar), 2, 6)
		if e := d.Compact(); e != api.OK {
			t.Fatalf("Compact() = %d", e)
		}
	}
}

// TestP6ReleasedLeasesCount: releasing gives no room for leases.
func TestP6ReleasedLeasesCount(t *testing.T) {
	d := stocked(t, 60)
	for i := range api.MaxLeases {
		answers(t, d, lease(i, 5, scalar, 1), i, 1)
		answers(t, d, release(i, 5), i, 1)
	}
	d.Compact()
	refuses(t, d, lease(0, 6, scalar, 1), api.ErrFull)
	if n := len(d.Leases()); n != api.MaxLeases {
		t.Errorf("%d leases", n)
	}
}
