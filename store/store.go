// Package store: the triples that are made, and to whom they are leased, here and on a disk.
package store

import (
	"maps"
	"slices"

	"dealer/api"
	"dealer/journal"
	"dealer/triple"
)

// Store keeps triples and leases.
type Store struct {
	stocks  []*stock // in the order in which the classes were first refilled
	leases  []api.Lease
	journal journal.Journal
}

// stock: the triples of one class. Those numbered below leased are leased.
type stock struct {
	class        api.Class
	made, leased int
	shares       map[int]triple.Shares // by the triple's number; without those that are forgotten
}

// Refill makes triples out of draws.
func (s *Store) Refill(c api.Class, draws []uint64) api.Errno {
	if !triple.IsClass(c) {
		return api.ErrClass
	}
	each := triple.Draws(c)
	count := len(draws) / each
	if len(draws)%each != 0 || count < 1 || count > api.MaxRefill {
		return api.ErrDraws
	}
	m := making{class: c}
	for i := range count {
		m.triples = append(m.triples, triple.Make(c, draws[i*each:(i+1)*each]))
	}
	return s.do(m)
}

// Compact forgets the shares of triples of released leases, here and on the disk.
func (s *Store) Compact() api.Errno {
	next := s.compacted()
	if next.kept() == s.kept() {
		return api.OK
	}
	// Not by a record behind the others: what is forgotten must not stay in the file.
	if !s.journal.Replace(next.records()) {
		return api.ErrDisk
	}
	s.stocks = next.stocks
	return api.OK
}

// compacted is a copy of what the store keeps, without what Compact forgets. Not the store itself: if the disk fails,
// nothing is forgotten.
func (s *Store) compacted() *Store {
	next := &Store{leases: s.leases}
	for _, k := range s.stocks {
		own := *k
		own.shares = maps.Clone(k.shares)
		next.stocks = append(next.stocks, &own)
	}
	for _, l := range s.leases {
		if l.Released {
			next.forget(l)
		}
	}
	return next
}

func (s *Store) forget(l api.Lease) {
	k := s.find(l.Class)
	for i := range l.Count {
		delete(k.shares, l.From+i)
	}
}

// kept is of how many triples the shares are kept.
func (s *Store) kept() int {
	sum := 0
	for _, k := range s.stocks {
		sum += len(k.shares)
	}
	return sum
}

// Classes lists the classes, in the order in which they were first refilled.
func (s *Store) Classes() []api.Stock {
	var list []api.Stock
	for _, k := range s.stocks {
		list = append(list, api.Stock{Class: k.class, Made: k.made, Leased: k.leased, Kept: len(k.shares)})
	}
	return list
}

// Leases lists the leases, in the order in which they were made.
func (s *Store) Leases() []api.Lease {
	return slices.Clone(s.leases)
}

// FailAt lets the operation on the disk fail that comes behind n more; none, if n is below 0.
func (s *Store) FailAt(n int) {
	s.journal.FailAt(n)
}

// Disk lists the operations that were done on the disk.
func (s *Store) Disk() []api.Op {
	return s.journal.Done()
}

// find gives the stock of a class; nil, if there are no triples of it.
func (s *Store) find(c api.Class) *stock {
	for _, k := range s.stocks {
		if k.class == c {
			return k
		}
	}
	return nil
}

// stockFor gives the stock of a class, a new one if there is none.
func (s *Store) stockFor(c api.Class) *stock {
	k := s.find(c)
	if k == nil {
		k = &stock{class: c, shares: make(map[int]triple.Shares)}
		s.stocks = append(s.stocks, k)
	}
	return k
}

// named gives the lease of a Session and an Id; nil, if there is none.
func (s *Store) named(session, id int) *api.Lease {
	for i, l := range s.leases {
		if l.Session == session && l.Id == id {
			return &s.leases[i]
		}
	}
	return nil
}

// leaseOf gives the lease that a triple is one of; nil, if it is not leased.
func (s *Store) leaseOf(c api.Class, number int) *api.Lease {
	for i, l := range s.leases {
		if l.Class == c && l.From <= number && number < l.From+l.Count {
			return &s.leases[i]
		}
	}
	return nil
}
