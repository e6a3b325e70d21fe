package store

import (
	"dealer/api"
	"dealer/journal"
)

// Restart makes a store out of what the files of a disk hold.
func Restart(files []api.File) Store {
	s := replay(journal.Read(files))
	if !s.isSound() {
		s = Store{}
	}
	// What is told from now on must be safe, and the next record must not come behind half a one.
	s.journal.Replace(s.records())
	return s
}

// replay does the changes that records are, up to the first that is none or may not be done.
func replay(records []string) Store {
	var s Store
	for _, record := range records {
		c := read(record)
		if c == nil || c.against(&s) != api.OK {
			break
		}
		c.apply(&s)
	}
	return s
}

// isSound tells whether no shares are forgotten but those of released leases. A store that was cut off in its first
// records, by whatever means, may have lost the leases, and would lease triples that it has no shares of.
func (s *Store) isSound() bool {
	for _, k := range s.stocks {
		for i := range k.made {
			l := s.leaseOf(k.class, i)
			if isForgotten(k.shares[i]) && (l == nil || !l.Released) {
				return false
			}
		}
	}
	return true
}
