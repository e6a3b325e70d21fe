package store

import (
	"dealer/api"
	"dealer/number"
	"dealer/triple"
	"dealer/wire"
)

// The record of a lease or a release is the request that asks for it; that of triples begins with a byte that is no
// kind of request. In it, a byte ahead of each triple tells whether its shares follow.
const (
	makingKind = 0
	forgotten  = 0
	kept       = 1
)

const (
	classSize = 4
	wordSize  = 8
)

// records are changes that make of an empty store what this one is.
func (s *Store) records() []string {
	var list []string
	for _, k := range s.stocks {
		list = append(list, k.making().record())
	}
	for _, l := range s.leases {
		list = append(list, leasing{&wire.Lease{Session: l.Session, Id: l.Id, Class: l.Class, Count: l.Count}}.record())
	}
	for _, l := range s.leases {
		if l.Released {
			list = append(list, releasing{&wire.Release{Session: l.Session, Id: l.Id}}.record())
		}
	}
	return list
}

// making is how all triples of the stock are made at once.
func (k *stock) making() making {
	m := making{class: k.class}
	for i := range k.made {
		m.triples = append(m.triples, k.shares[i])
	}
	return m
}

func (m making) record() string {
	b := []byte{makingKind, byte(m.class.Kind), byte(m.class.M), byte(m.class.K), byte(m.class.N)}
	for _, shares := range m.triples {
		if isForgotten(shares) {
			b = append(b, forgotten)
			continue
		}
		b = append(b, kept)
		for _, share := range shares {
			for _, word := range share {
				b = number.Put(b, word, wordSize)
			}
		}
	}
	return string(b)
}

// read gives the change that a record is; nil, if it is none.
func read(record string) change {
	if record != "" && record[0] == makingKind {
		return readMaking(record[1:])
	}
	r, e := wire.Read(record)
	if e != api.OK {
		return nil
	}
	switch r := r.(type) {
	case *wire.Lease:
		return leasing{r}
	case *wire.Release:
		return releasing{r}
	}
	return nil
}

func readMaking(s string) change {
	if len(s) <= classSize {
		return nil
	}
	m := making{class: api.Class{Kind: int(s[0]), M: int(s[1]), K: int(s[2]), N: int(s[3])}}
	if !triple.IsClass(m.class) {
		return nil
	}
	for s = s[classSize:]; s != ""; {
		shares, size := readShares(s, triple.Words(m.class))
		if size == 0 {
			return nil
		}
		m.triples = append(m.triples, shares)
		s = s[size:]
	}
	return m
}

// readShares reads the shares of a triple, so many words for each party, at the head of s, and tells how many bytes they
// take there: 0, if there are none.
func readShares(s string, words int) (shares triple.Shares, size int) {
	if s[0] == forgotten {
		return shares, 1
	}
	size = 1 + len(shares)*words*wordSize
	if s[0] != kept || len(s) < size {
		return shares, 0
	}
	for i := range len(shares) * words {
		at := 1 + i*wordSize
		shares[i/words] = append(shares[i/words], number.Take(s[at:at+wordSize]))
	}
	return shares, size
}
