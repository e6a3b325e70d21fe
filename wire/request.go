// Package wire: requests as types of their own, requests and replies as bytes.
package wire

import "dealer/api"

// Request is a *Lease, a *Fetch, a *Release or a *Status. Each has room for what its kind uses, and for nothing else.
type Request interface {
	// Plain is the request as the one struct that all kinds share.
	Plain() api.Request
	// fields are the numbers of the request, in the order of its bytes.
	fields() []field
}

// Lease asks for triples that are a session's alone.
type Lease struct {
	Session, Id int
	Class       api.Class
	Count       int
}

// Fetch asks for a party's shares of leased triples.
type Fetch struct {
	Session     int
	Class       api.Class
	From, Count int
	Party       int
}

// Release gives a lease back.
type Release struct {
	Session, Id int
}

// Status asks how many triples of a class there are.
type Status struct {
	Class api.Class
}

// Check finds the request that r is; ErrMalformed, if r is not well formed.
func Check(r api.Request) (Request, api.Errno) {
	own := ofKind(r)
	// What the kind has no room for is lost in own: a difference is something that is not used and yet not 0.
	if own == nil || own.Plain() != r || !fit(own.fields()) {
		return nil, api.ErrMalformed
	}
	return own, api.OK
}

// ofKind takes from r what its kind uses; nil, if its kind is none.
func ofKind(r api.Request) Request {
	switch r.Kind {
	case api.LeaseKind:
		return &Lease{Session: r.Session, Id: r.Id, Class: r.Class, Count: r.Count}
	case api.FetchKind:
		return &Fetch{Session: r.Session, Class: r.Class, From: r.From, Count: r.Count, Party: r.Party}
	case api.ReleaseKind:
		return &Release{Session: r.Session, Id: r.Id}
	case api.StatusKind:
		return &Status{Class: r.Class}
	}
	return nil
}

func (r *Lease) Plain() api.Request {
	return api.Request{Kind: api.LeaseKind, Session: r.Session, Id: r.Id, Class: r.Class, Count: r.Count}
}

func (r *Fetch) Plain() api.Request {
	return api.Request{Kind: api.FetchKind, Session: r.Session, Class: r.Class, From: r.From, Count: r.Count, Party: r.Party}
}

func (r *Release) Plain() api.Request {
	return api.Request{Kind: api.ReleaseKind, Session: r.Session, Id: r.Id}
}

func (r *Status) Plain() api.Request {
	return api.Request{Kind: api.StatusKind, Class: r.Class}
}
