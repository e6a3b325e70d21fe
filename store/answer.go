package store

import (
	"dealer/api"
	"dealer/wire"
)

// Answer answers a request.
func (s *Store) Answer(r wire.Request) api.Reply {
	switch r := r.(type) {
	case *wire.Lease:
		return s.lease(r)
	case *wire.Fetch:
		return s.fetch(r)
	case *wire.Release:
		return s.release(r)
	case *wire.Status:
		return s.status(r)
	}
	return api.Reply{Code: api.ErrMalformed}
}

func (s *Store) lease(r *wire.Lease) api.Reply {
	if l := s.named(r.Session, r.Id); l != nil {
		return leasedBefore(l, r)
	}
	return s.doToLease(leasing{r}, r.Session, r.Id)
}

// leasedBefore answers a request for a lease whose Session and Id are those of the lease l.
func leasedBefore(l *api.Lease, r *wire.Lease) api.Reply {
	if l.Class != r.Class || l.Count != r.Count {
		return api.Reply{Code: api.ErrConflict}
	}
	return api.Reply{From: l.From, Count: l.Count}
}

func (s *Store) release(r *wire.Release) api.Reply {
	return s.doToLease(releasing{r}, r.Session, r.Id)
}

// doToLease does a change of the lease of a Session and an Id, and tells what this lease then is of.
func (s *Store) doToLease(c change, session, id int) api.Reply {
	if e := s.do(c); e != api.OK {
		return api.Reply{Code: e}
	}
	l := s.named(session, id)
	return api.Reply{From: l.From, Count: l.Count}
}

func (s *Store) fetch(r *wire.Fetch) api.Reply {
	k := s.find(r.Class)
	if e := s.mayFetch(k, r); e != api.OK {
		return api.Reply{Code: e}
	}
	var words []uint64
	for i := range r.Count {
		words = append(words, k.shares[r.From+i][r.Party]...)
	}
	return api.Reply{From: r.From, Count: r.Count, Words: words}
}

// mayFetch tells what stands against a fetch from the stock k (nil: there is none).
func (s *Store) mayFetch(k *stock, r *wire.Fetch) api.Errno {
	switch {
	case k == nil:
		return api.ErrClass
	case !isCount(r.Count):
		return api.ErrCount
	case r.Party != 0 && r.Party != 1:
		return api.ErrParty
	}
	for i := range r.Count {
		l := s.leaseOf(r.Class, r.From+i)
		if l == nil || l.Session != r.Session || l.Released {
			return api.ErrLease
		}
	}
	return api.OK
}

func (s *Store) status(r *wire.Status) api.Reply {
	k := s.find(r.Class)
	if k == nil {
		return api.Reply{Code: api.ErrClass}
	}
	return api.Reply{From: k.leased, Count: k.made}
}

func isCount(n int) bool {
	return n >= 1 && n <= api.MaxCount
}
