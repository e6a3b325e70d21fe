package dealer_test

import (
	"slices"
	"strings"
	"testing"

	"dealer/api"
	"dealer/dealer"
	"dealer/number"
)

func TestP8Compact(t *testing.T) {
	d := stocked(t, 6)
	compacts(t, d)
	lists(t, d, api.Stock{Class: scalar, Made: 6, Kept: 6})
	for i := range 2 {
		answers(t, d, lease(7, i, scalar, 2), 2*i, 2)
	}
	compacts(t, d)
	lists(t, d, api.Stock{Class: scalar, Made: 6, Leased: 4, Kept: 6})
	answers(t, d, release(7, 0), 0, 2)
	lists(t, d, api.Stock{Class: scalar, Made: 6, Leased: 4, Kept: 6})
	for range 2 {
		compacts(t, d)
		lists(t, d, api.Stock{Class: scalar, Made: 6, Leased: 4, Kept: 4})
	}
	for party := range 2 {
		answers(t, d, fetch(7, scalar, 2, 2, party), 2, 2, sharesOf(2, 2, party)...)
		refuses(t, d, fetch(7, scalar, 0, 2, party), api.ErrLease)
	}
	// Numbers go on, and what is made later is kept.
	refill(t, d, scalar, numbered(6, 2), api.OK)
	answers(t, d, lease(8, 1, scalar, 4), 4, 4)
	answers(t, d, fetch(8, scalar, 4, 4, 1), 4, 4, sharesOf(4, 4, 1)...)
	lists(t, d, api.Stock{Class: scalar, Made: 8, Leased: 8, Kept: 6})
	answers(t, d, release(8, 1), 4, 4)
	answers(t, d, release(7, 1), 2, 2)
	compacts(t, d)
	lists(t, d, api.Stock{Class: scalar, Made: 8, Leased: 8})
	answers(t, d, status(scalar), 8, 8)
}

// TestP8CompactClasses: of each class its own triples are forgotten.
func TestP8CompactClasses(t *testing.T) {
	d := stocked(t, 3)
	refill(t, d, bits(1), []uint64{12, 10, 1, 2, 4, 12, 10, 1, 2, 4}, api.OK)
	answers(t, d, lease(1, 1, scalar, 2), 0, 2)
	answers(t, d, lease(1, 2, bits(1), 2), 0, 2)
	answers(t, d, release(1, 1), 0, 2)
	compacts(t, d)
	lists(t, d, api.Stock{Class: scalar, Made: 3, Leased: 2, Kept: 1}, api.Stock{Class: bits(1), Made: 2, Leased: 2, Kept: 2})
	answers(t, d, fetch(1, bits(1), 0, 2, 1), 0, 2, 13, 8, 12, 13, 8, 12)
	answers(t, d, release(1, 2), 0, 2)
	compacts(t, d)
	lists(t, d, api.Stock{Class: scalar, Made: 3, Leased: 2, Kept: 1}, api.Stock{Class: bits(1), Made: 2, Leased: 2})
}

// TestP8ForgottenOnDisk: what is kept no more is not on the disk either, and what is kept is.
func TestP8ForgottenOnDisk(t *testing.T) {
	word := func(i, party int) uint64 { return 0xabcdef0123450000 + uint64(2*i+party) }
	d := dealer.Open()
	for i := range 4 {
		// The shares of a of triple i are word(i, 0) and word(i, 1).
		refill(t, d, scalar, []uint64{word(i, 0) + word(i, 1), 0, word(i, 0), 0, 0}, api.OK)
		answers(t, d, lease(1, i, scalar, 1), i, 1)
	}
	answers(t, d, release(1, 1), 1, 1)
	answers(t, d, release(1, 3), 3, 1)
	// Changes that failed may have left files of their own.
	for _, n := range []int{1, 3, 2} {
		d.FailAt(n)
		refill(t, d, scalar, numbered(0, 1), api.ErrDisk)
	}
	has := func(w uint64) bool {
		for _, f := range lay(nil, d.Disk()).all() {
			if strings.Contains(f.Bytes, string(number.Put(nil, w, 8))) {
				return true
			}
		}
		return false
	}
	for _, behind := range []bool{false, true} {
		for i := range 4 {
			for party := range 2 {
				if want := !behind || i%2 == 0; has(word(i, party)) != want {
					t.Errorf("the share of triple %d is on the disk: %v, want %v", i, !want, want)
				}
			}
		}
		compacts(t, d)
	}
}

func TestP8Classes(t *testing.T) {
	d := dealer.Open()
	lists(t, d)
	order := []api.Class{matrix(2, 2, 2), scalar, bits(3), matrix(1, 1, 1), bits(1), matrix(3, 3, 3)}
	for _, c := range order {
		refill(t, d, c, make([]uint64, 2*drawsOf(c)), api.OK)
	}
	for i, c := range slices.Backward(order) {
		refill(t, d, c, make([]uint64, drawsOf(c)), api.OK)
		answers(t, d, lease(1, i, c, 2), 0, 2)
	}
	refill(t, d, bits(2), make([]uint64, 10), api.ErrFull)
	var want []api.Stock
	for _, c := range order {
		want = append(want, api.Stock{Class: c, Made: 3, Leased: 2, Kept: 3})
	}
	lists(t, d, want...)
}

func TestP8Leases(t *testing.T) {
	d := stocked(t, 6)
	refill(t, d, bits(1), make([]uint64, 10), api.OK)
	if l := d.Leases(); len(l) != 0 {
		t.Errorf("Leases() = %v", l)
	}
	answers(t, d, lease(9, 5, scalar, 2), 0, 2)
	answers(t, d, lease(7, 6, bits(1), 1), 0, 1)
	answers(t, d, lease(8, 0, scalar, 3), 2, 3)
	refuses(t, d, lease(8, 1, scalar, 3), api.ErrFew)
	answers(t, d, lease(9, 5, scalar, 2), 0, 2)
	answers(t, d, release(8, 0), 2, 3)
	answers(t, d, release(9, 5), 0, 2)
	want := []api.Lease{
		{Session: 9, Id: 5, Class: scalar, From: 0, Count: 2, Released: true},
		{Session: 7, Id: 6, Class: bits(1), From: 0, Count: 1},
		{Session: 8, Id: 0, Class: scalar, From: 2, Count: 3, Released: true},
	}
	for range 2 {
		if l := d.Leases(); !slices.Equal(l, want) {
			t.Errorf("Leases() = %v, want %v", l, want)
		}
		compacts(t, d)
	}
}
