package store

import (
	"testing"

	"dealer/api"
	"dealer/wire"
)

var scalar = api.Class{Kind: api.Scalar, M: 1, K: 1, N: 1}

// TestAnswerByType: each type of request gets the answer of its own kind.
func TestAnswerByType(t *testing.T) {
	var s Store
	if e := s.Refill(scalar, []uint64{3, 5, 1, 1, 1, 0, 0, 0, 0, 0}); e != api.OK {
		t.Fatalf("Refill: %d", e)
	}
	if a := s.Answer(&wire.Lease{Session: 7, Id: 1, Class: scalar, Count: 1}); a.Code != api.OK || a.From != 0 || a.Count != 1 {
		t.Errorf("the lease is answered %v", a)
	}
	if a := s.Answer(&wire.Fetch{Session: 7, Class: scalar, Count: 1, Party: 1}); len(a.Words) != 3 || a.Words[2] != 14 {
		t.Errorf("the fetch is answered %v", a)
	}
	if a := s.Answer(&wire.Status{Class: scalar}); a.From != 1 || a.Count != 2 {
		t.Errorf("the status is answered %v", a)
	}
	if a := s.Answer(&wire.Release{Session: 7, Id: 1}); a.Code != api.OK || a.From != 0 || a.Count != 1 || !s.leases[0].Released {
		t.Errorf("the release is answered %v", a)
	}
}

// TestOneNameOneLease: a request that comes again leaves one lease, and one that is refused leaves none.
func TestOneNameOneLease(t *testing.T) {
	var s Store
	s.Refill(scalar, make([]uint64, 10))
	for range 3 {
		s.Answer(&wire.Lease{Session: 7, Id: 1, Class: scalar, Count: 1})
		s.Answer(&wire.Lease{Session: 7, Id: 1, Class: scalar, Count: 2})
		s.Answer(&wire.Lease{Session: 7, Id: 2, Class: scalar, Count: 2})
	}
	want := api.Lease{Session: 7, Id: 1, Class: scalar, Count: 1}
	if len(s.leases) != 1 || s.leases[0] != want {
		t.Errorf("the leases are %v", s.leases)
	}
}

// TestRefusedClassIsNotKept: a class whose Refill is refused takes none of the room for classes.
func TestRefusedClassIsNotKept(t *testing.T) {
	var s Store
	for range api.MaxClasses + 1 {
		s.Refill(scalar, make([]uint64, 4))
		s.Refill(api.Class{Kind: api.Scalar}, make([]uint64, 5))
	}
	if len(s.stocks) != 0 {
		t.Errorf("%d classes are kept", len(s.stocks))
	}
}
