package store

import (
	"dealer/api"
	"dealer/wire"
)

// Answer answers a request.
func (s *Store) Answer(r wire.Request) api.Reply {
	switch r := r.(type) {
	case *wire.Lease:
		return s.lease(*r)
	case *wire.Fetch:
		return s.fetch(*r)
	case *wire.Status:
		return s.status(*r)
	}
	// Nothing can be released so far.
	return api.Reply{}
}

func (s *Store) lease(r wire.Lease) api.Reply {
	for _, l := range s.leases {
		if l.Session == r.Session && l.Id == r.Id {
			return leasedBefore(l, r)
		}
	}
	k := s.find(r.Class)
	if e := s.mayLease(k, r.Count); e != api.OK {
		return api.Reply{Code: e}
	}
	l := api.Lease{Session: r.Session, Id: r.Id, Class: r.Class, From: k.leased, Count: r.Count}
	s.leases = append(s.leases, l)
	k.leased += r.Count
	return api.Reply{From: l.From, Count: l.Count}
}

// leasedBefore answers a request for a lease whose Session and Id are those of the lease l.
func leasedBefore(l api.Lease, r wire.Lease) api.Reply {
	if l.Class != r.Class || l.Count != r.Count {
		return api.Reply{Code: api.ErrConflict}
	}
	return api.Reply{From: l.From, Count: l.Count}
}

// mayLease tells what stands against a new lease of so many triples of the stock k (nil: there is none).
func (s *Store) mayLease(k *stock, count int) api.Errno {
	switch {
	case k == nil:
		return api.ErrClass
	case !isCount(count):
		return api.ErrCount
	case k.made-k.leased < count:
		return api.ErrFew
	case len(s.leases) >= api.MaxLeases:
		return api.ErrFull
	}
	return api.OK
}

func (s *Store) fetch(r wire.Fetch) api.Reply {
	k := s.find(r.Class)
	if e := s.mayFetch(k, r); e != api.OK {
		return api.Reply{Code: e}
	}
	var words []uint64
	for i := range r.Count {
		words = append(words, k.shares[r.From+i][r.Party]...)
	}
	return api.Reply{From: r.From, Count: r.Count, Words: words}
}

// mayFetch tells what stands against a fetch from the stock k (nil: there is none).
func (s *Store) mayFetch(k *stock, r wire.Fetch) api.Errno {
	switch {
	case k == nil:
		return api.ErrClass
	case !isCount(r.Count):
		return api.ErrCount
	case r.Party != 0 && r.Party != 1:
		return api.ErrParty
	}
	for i := range r.Count {
		if !s.holds(r.Session, r.Class, r.From+i) {
			return api.ErrLease
		}
	}
	return api.OK
}

// holds tells whether a triple of a class is one of a lease of the session.
func (s *Store) holds(session int, c api.Class, number int) bool {
	for _, l := range s.leases {
		if l.Session == session && l.Class == c && l.From <= number && number < l.From+l.Count {
			return true
		}
	}
	return false
}

func (s *Store) status(r wire.Status) api.Reply {
	k := s.find(r.Class)
	if k == nil {
		return api.Reply{Code: api.ErrClass}
	}
	return api.Reply{From: k.leased, Count: k.made}
}

func isCount(n int) bool {
	return n >= 1 && n <= api.MaxCount
}
