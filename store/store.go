// Package store: the triples that are made, and to whom they are leased.
package store

import (
	"dealer/api"
	"dealer/triple"
)

// Store keeps triples and leases.
type Store struct {
	stocks []*stock // in the order in which the classes were first refilled
	leases []api.Lease
}

// stock: the triples of one class. Those numbered below leased are leased.
type stock struct {
	class        api.Class
	made, leased int
	shares       map[int]triple.Shares // by the triple's number
}

// Refill makes triples out of draws.
func (s *Store) Refill(c api.Class, draws []uint64) api.Errno {
	if !triple.IsClass(c) {
		return api.ErrClass
	}
	each := triple.Draws(c)
	count := len(draws) / each
	if len(draws)%each != 0 || count < 1 || count > api.MaxRefill {
		return api.ErrDraws
	}
	if !s.hasRoom(c, count) {
		return api.ErrFull
	}
	k := s.stockFor(c)
	for i := range count {
		k.shares[k.made] = triple.Make(c, draws[i*each:(i+1)*each])
		k.made++
	}
	return api.OK
}

// hasRoom tells whether so many triples more of a class may be made.
func (s *Store) hasRoom(c api.Class, count int) bool {
	k := s.find(c)
	if k == nil {
		return len(s.stocks) < api.MaxClasses && count <= api.MaxMade
	}
	return k.made+count <= api.MaxMade
}

// find gives the stock of a class; nil, if there are no triples of it.
func (s *Store) find(c api.Class) *stock {
	for _, k := range s.stocks {
		if k.class == c {
			return k
		}
	}
	return nil
}

// stockFor gives the stock of a class, a new one if there is none.
func (s *Store) stockFor(c api.Class) *stock {
	k := s.find(c)
	if k == nil {
		k = &stock{class: c, shares: make(map[int]triple.Shares)}
		s.stocks = append(s.stocks, k)
	}
	return k
}
