package store

import (
	"slices"
	"strings"
	"testing"

	"dealer/api"
	"dealer/journal"
	"dealer/triple"
	"dealer/wire"
)

var bits = api.Class{Kind: api.Bits, M: 1, K: 1, N: 1}

// some are so many triples of a class whose shares are three words, with shares that are all nought; of the others
// nothing is kept.
func some(c api.Class, kept, forgotten int) string {
	m := making{class: c, triples: make([]triple.Shares, forgotten)}
	for range kept {
		m.triples = append(m.triples, triple.Shares{{0, 0, 0}, {0, 0, 0}})
	}
	return m.record()
}

func leaseRecord(session, id int, c api.Class, count int) string {
	return leasing{&wire.Lease{Session: session, Id: id, Class: c, Count: count}}.record()
}

func releaseRecord(session, id int) string {
	return releasing{&wire.Release{Session: session, Id: id}}.record()
}

// restarted is the store of a journal with these records.
func restarted(records ...string) *Store {
	var j journal.Journal
	j.Replace(records)
	s := Restart([]api.File{{Name: j.Done()[2].To, Bytes: j.Done()[0].Bytes}})
	return &s
}

// TestRecords: records make the same store again, whatever its triples and leases have become.
func TestRecords(t *testing.T) {
	var s Store
	check := func() {
		t.Helper()
		if again := restarted(s.records()...); !slices.Equal(again.Classes(), s.Classes()) || !slices.Equal(again.Leases(), s.Leases()) || !slices.Equal(again.records(), s.records()) {
			t.Errorf("%v, %v becomes %v, %v", s.Classes(), s.Leases(), again.Classes(), again.Leases())
		}
	}
	check()
	s.Refill(bits, []uint64{1, 2, 3, 4, 5})
	s.Refill(scalar, []uint64{1, 2, 3, 4, 5, 6, 7, 8, 9, 1 << 63, 0, 0, 0, 0, 0, 1, 1, 1, 1, 1})
	check()
	for i := range 3 {
		s.Answer(&wire.Lease{Session: 7, Id: 5 - i, Class: scalar, Count: 1})
		check()
	}
	s.Answer(&wire.Release{Session: 7, Id: 4})
	check()
	s.Compact()
	check()
	s.Answer(&wire.Release{Session: 7, Id: 3})
	check()
	s.Refill(scalar, make([]uint64, 10))
	s.Compact()
	check()
	if want := []api.Stock{{Class: bits, Made: 1, Kept: 1}, {Class: scalar, Made: 6, Leased: 3, Kept: 4}}; !slices.Equal(s.Classes(), want) {
		t.Errorf("Classes() = %v, want %v", s.Classes(), want)
	}
}

// TestForged: records that are whole, but not of a dealer.
func TestForged(t *testing.T) {
	var sixClasses []string
	var want []api.Stock
	for m := 1; m <= api.MaxSide; m++ {
		for k := 1; k <= 2; k++ {
			c := api.Class{Kind: api.Matrix, M: m, K: k, N: 1}
			sixClasses = append(sixClasses, making{class: c, triples: []triple.Shares{triple.Make(c, make([]uint64, triple.Draws(c)))}}.record())
			want = append(want, api.Stock{Class: c, Made: 1, Kept: 1})
		}
	}
	var manyLeases []string
	for i := range api.MaxLeases + 1 {
		manyLeases = append(manyLeases, leaseRecord(1, i, scalar, 1))
	}
	of := func(made, leased, kept int) []api.Stock {
		return []api.Stock{{Class: scalar, Made: made, Leased: leased, Kept: kept}}
	}
	for _, c := range []struct {
		name    string
		records []string
		want    []api.Stock
	}{
		{"as many as may be", []string{some(scalar, api.MaxMade, 0)}, of(api.MaxMade, 0, api.MaxMade)},
		{"too many at once", []string{some(scalar, api.MaxMade+1, 0)}, nil},
		{"too many in all", []string{some(scalar, 150, 0), some(scalar, 51, 0)}, of(150, 0, 150)},
		{"too many classes", append(slices.Clone(sixClasses), some(scalar, 1, 0)), want},
		{"too many leases", append([]string{some(scalar, 100, 0)}, manyLeases...), of(100, api.MaxLeases, 100)},
		{"a lease of too many", []string{some(scalar, 2, 0), leaseRecord(1, 1, scalar, 3)}, of(2, 0, 2)},
		{"a lease of none", []string{some(scalar, 2, 0), leaseRecord(1, 1, scalar, 0)}, of(2, 0, 2)},
		{"a lease of more than a lease may have", []string{some(scalar, 100, 0), leaseRecord(1, 1, scalar, api.MaxCount+1)}, of(100, 0, 100)},
		{"a lease of no class", []string{some(scalar, 2, 0), leaseRecord(1, 1, bits, 1)}, of(2, 0, 2)},
		{"a name twice", []string{some(scalar, 2, 0), leaseRecord(1, 1, scalar, 1), leaseRecord(1, 1, scalar, 1)}, of(2, 1, 2)},
		{"a release of none", []string{some(scalar, 2, 0), releaseRecord(1, 1), leaseRecord(1, 1, scalar, 1)}, of(2, 0, 2)},
		{"forgotten, not leased", []string{some(scalar, 1, 2)}, nil},
		{"forgotten, not released", []string{some(scalar, 1, 2), leaseRecord(1, 1, scalar, 2)}, nil},
		{"forgotten, one of them released", []string{some(scalar, 1, 2), leaseRecord(1, 1, scalar, 1), leaseRecord(1, 2, scalar, 1), releaseRecord(1, 1)}, nil},
		{"forgotten, released", []string{some(scalar, 1, 2), leaseRecord(1, 1, scalar, 2), releaseRecord(1, 1)}, of(3, 2, 1)},
		{"forgotten, another class released", []string{some(scalar, 1, 2), some(bits, 2, 0), leaseRecord(1, 1, bits, 2), releaseRecord(1, 1)}, nil},
		{"no record", []string{some(scalar, 2, 0), "", leaseRecord(1, 1, scalar, 1)}, of(2, 0, 2)},
	} {
		if got := restarted(c.records...).Classes(); !slices.Equal(got, c.want) {
			t.Errorf("%s: %v, want %v", c.name, got, c.want)
		}
	}
}

func TestNoRecord(t *testing.T) {
	two := some(scalar, 2, 0)
	bad := []string{
		"", "\x00", "\x01", "\x05", two[:5], "\x00\x03\x01\x01\x01\x00", "\x00\x00\x02\x01\x01\x00", "\x00\x00\x00\x00\x00\x00", two + "\x02", two + "\x01",
		strings.Replace(two, "\x00\x01\x01\x01\x01", "\x00\x01\x01\x01\x02", 1),
		wire.Write(&wire.Fetch{Session: 1, Class: scalar, Count: 1}), wire.Write(&wire.Status{Class: scalar}), releaseRecord(1, 1) + "\x00",
	}
	for n := range len(two) - 1 {
		if n != len(two[:5])+len(two[5:])/2 { // just one of the two
			bad = append(bad, two[:n])
		}
	}
	for _, s := range bad {
		if c := read(s); c != nil {
			t.Errorf("%q is the change %#v", s, c)
		}
	}
}

// TestRestartIsSafe: what a Restart tells is on the disk for sure when it is done, even if the files were not.
func TestRestartIsSafe(t *testing.T) {
	s := restarted(some(scalar, 2, 0), leaseRecord(1, 1, scalar, 1))
	ops := s.Disk()
	if len(ops) == 0 || ops[len(ops)-1].Kind != api.SyncDir {
		t.Fatalf("Restart does %#v", ops)
	}
	again := Restart([]api.File{{Name: ops[2].To, Bytes: ops[0].Bytes}})
	if !slices.Equal(again.Leases(), s.Leases()) || !slices.Equal(again.Classes(), s.Classes()) {
		t.Errorf("%v, %v was written as %v, %v", s.Classes(), s.Leases(), again.Classes(), again.Leases())
	}
}
