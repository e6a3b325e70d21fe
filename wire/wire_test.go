package wire

import (
	"testing"

	"dealer/api"
)

var class1234 = api.Class{Kind: 1, M: 2, K: 3, N: 4}

// TestTypes: a request that was checked or read is of the type of its kind, with what it uses.
func TestTypes(t *testing.T) {
	for _, c := range []struct {
		r     api.Request
		right func(Request) bool
	}{
		{api.Request{Kind: api.LeaseKind, Session: 5, Id: 6, Class: class1234, Count: 7}, func(r Request) bool {
			l, ok := r.(*Lease)
			return ok && *l == Lease{Session: 5, Id: 6, Class: class1234, Count: 7}
		}},
		{api.Request{Kind: api.FetchKind, Session: 5, Class: class1234, From: 6, Count: 7, Party: 8}, func(r Request) bool {
			f, ok := r.(*Fetch)
			return ok && *f == Fetch{Session: 5, Class: class1234, From: 6, Count: 7, Party: 8}
		}},
		{api.Request{Kind: api.ReleaseKind, Session: 5, Id: 6}, func(r Request) bool {
			l, ok := r.(*Release)
			return ok && *l == Release{Session: 5, Id: 6}
		}},
		{api.Request{Kind: api.StatusKind, Class: class1234}, func(r Request) bool {
			s, ok := r.(*Status)
			return ok && *s == Status{Class: class1234}
		}},
	} {
		own, e := Check(c.r)
		if e != api.OK || !c.right(own) {
			t.Fatalf("Check(%+v) = %+v, %d", c.r, own, e)
		}
		if read, e := Read(Write(own)); e != api.OK || !c.right(read) {
			t.Errorf("Read(Write(%+v)) = %+v, %d", own, read, e)
		}
		if own.Plain() != c.r {
			t.Errorf("Plain of %+v = %+v", c.r, own.Plain())
		}
	}
}

// TestNoRequest: with an error there is no request, not even one of a type.
func TestNoRequest(t *testing.T) {
	for _, r := range []api.Request{{}, {Kind: 5}, {Kind: api.LeaseKind, Party: 1}, {Kind: api.FetchKind, Party: 256}, {Kind: api.ReleaseKind, Id: -1}} {
		if own, e := Check(r); own != nil || e != api.ErrMalformed {
			t.Errorf("Check(%+v) = %v, %d", r, own, e)
		}
	}
	for _, s := range []string{"", "\x00", "\x05", "\x03", "\x03\x00\x00\x00\x00\x80\x00\x00\x00", "\x04\x00\x00\x00\x00\x00"} {
		if own, e := Read(s); own != nil || e != api.ErrMalformed {
			t.Errorf("Read(%q) = %v, %d", s, own, e)
		}
	}
}
