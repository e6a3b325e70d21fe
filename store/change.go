package store

import (
	"dealer/api"
	"dealer/triple"
	"dealer/wire"
)

// change is what is done to a store by one record of its journal.
type change interface {
	// against is what stands against the change; OK, if nothing does.
	against(s *Store) api.Errno
	// apply does it, if nothing stands against it.
	apply(s *Store)
	record() string
}

// do does a change here and on the disk.
func (s *Store) do(c change) api.Errno {
	if e := c.against(s); e != api.OK {
		return e
	}
	if !s.journal.Add(c.record(), s.records) {
		return api.ErrDisk
	}
	c.apply(s)
	return api.OK
}

// making: triples of a class are made. Shares of no words are those of a triple that is forgotten.
type making struct {
	class   api.Class
	triples []triple.Shares
}

func (m making) against(s *Store) api.Errno {
	k, made := s.find(m.class), 0
	if k != nil {
		made = k.made
	}
	if k == nil && len(s.stocks) >= api.MaxClasses || made+len(m.triples) > api.MaxMade {
		return api.ErrFull
	}
	return api.OK
}

func (m making) apply(s *Store) {
	k := s.stockFor(m.class)
	for _, shares := range m.triples {
		if !isForgotten(shares) {
			k.shares[k.made] = shares
		}
		k.made++
	}
}

func isForgotten(shares triple.Shares) bool {
	return len(shares[0]) == 0
}

// leasing: a lease is made, for which there is no other of the same Session and Id.
type leasing struct {
	*wire.Lease
}

func (r leasing) against(s *Store) api.Errno {
	k := s.find(r.Class)
	switch {
	case s.named(r.Session, r.Id) != nil:
		return api.ErrConflict
	case k == nil:
		return api.ErrClass
	case !isCount(r.Count):
		return api.ErrCount
	case k.made-k.leased < r.Count:
		return api.ErrFew
	case len(s.leases) >= api.MaxLeases:
		return api.ErrFull
	}
	return api.OK
}

func (r leasing) apply(s *Store) {
	k := s.find(r.Class)
	s.leases = append(s.leases, api.Lease{Session: r.Session, Id: r.Id, Class: r.Class, From: k.leased, Count: r.Count})
	k.leased += r.Count
}

func (r leasing) record() string {
	return wire.Write(r.Lease)
}

// releasing: a lease is released.
type releasing struct {
	*wire.Release
}

func (r releasing) against(s *Store) api.Errno {
	if l := s.named(r.Session, r.Id); l == nil || l.Released {
		return api.ErrLease
	}
	return api.OK
}

func (r releasing) apply(s *Store) {
	s.named(r.Session, r.Id).Released = true
}

func (r releasing) record() string {
	return wire.Write(r.Release)
}
