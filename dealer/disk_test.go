package dealer_test

import (
	"math"
	"slices"
	"testing"

	"dealer/api"
	"dealer/dealer"
)

// TestP9EachChangeWrites: every change that is done does operations, and each is one that there is.
func TestP9EachChangeWrites(t *testing.T) {
	d := dealer.Open()
	for _, s := range script() {
		was := d.Disk()
		if e := s.do(d); e != api.OK {
			t.Fatalf("%s: %d", s.name, e)
		}
		is := d.Disk()
		if len(is) <= len(was) || !slices.Equal(is[:len(was)], was) {
			t.Errorf("%s: behind %#v the operations are %#v", s.name, was, is)
		}
		if !slices.ContainsFunc(is[len(was):], func(o api.Op) bool { return o.Kind == api.Write || o.Kind == api.Append }) {
			t.Errorf("%s writes nothing: %#v", s.name, is[len(was):])
		}
	}
	for _, o := range d.Disk() {
		if o.Kind < api.Write || o.Kind > api.Remove || (o.Name == "") != (o.Kind == api.SyncDir) || (o.To == "") != (o.Kind != api.Rename) || o.Bytes != "" && o.Kind > api.Append {
			t.Errorf("the operation %#v", o)
		}
	}
}

// idle are calls that do no operation on a dealer with 3 Scalar triples, of which 2 are leased to 7, 1.
func idle() []step {
	return []step{
		asking(lease(7, 1, scalar, 2)), asking(lease(7, 1, scalar, 3)), asking(lease(7, 2, scalar, 2)), asking(lease(7, 2, scalar, 0)), asking(lease(7, 2, bits(1), 1)), asking(lease(-1, 2, scalar, 1)),
		asking(release(7, 2)), asking(release(-7, 1)), asking(fetch(7, scalar, 0, 2, 0)), asking(fetch(8, scalar, 0, 2, 0)), asking(status(scalar)), asking(status(bits(1))),
		refilling(scalar), refilling(scalar, 1, 2, 3, 4), refilling(api.Class{}, 1, 2, 3, 4, 5),
		{"serve", func(d *dealer.Dealer) api.Errno { d.Serve(""); d.Serve("\x04\x00\x01\x01\x01"); return api.OK }},
		{"list", func(d *dealer.Dealer) api.Errno { d.Classes(); d.Leases(); d.Disk(); return api.OK }},
	}
}

// TestP9Idle: a call that changes nothing does nothing on the disk, answers no ErrDisk, and is not counted by FailAt.
func TestP9Idle(t *testing.T) {
	d := stocked(t, 3)
	answers(t, d, lease(7, 1, scalar, 2), 0, 2)
	was := d.Disk()
	d.FailAt(0)
	for _, s := range idle() {
		if e := s.do(d); e == api.ErrDisk || !slices.Equal(d.Disk(), was) {
			t.Errorf("%s: %d, and the operations are %#v", s.name, e, d.Disk()[len(was):])
		}
	}
	refuses(t, d, lease(7, 2, scalar, 1), api.ErrDisk)
}

// TestP9DiskComesLast: where another error applies, too, it is told, and the failing is still to come.
func TestP9DiskComesLast(t *testing.T) {
	d := stocked(t, api.MaxMade)
	for i := range api.MaxLeases {
		answers(t, d, lease(1, i, scalar, 1), i, 1)
	}
	d.FailAt(0)
	refuses(t, d, lease(2, 1, scalar, 1), api.ErrFull)
	refuses(t, d, release(2, 1), api.ErrLease)
	refill(t, d, scalar, numbered(0, 1), api.ErrFull)
	refuses(t, d, release(1, 1), api.ErrDisk)
	answers(t, d, release(1, 1), 1, 1)
}

// TestP9FailAt: with each place of each change failing: the change ends by ErrDisk, with the operations ahead of that
// place and no more; what is told stays as it was; and then the change can be done.
func TestP9FailAt(t *testing.T) {
	for i, s := range script() {
		for n := 0; ; n++ {
			h := opened(t)
			for _, before := range script()[:i] {
				h.do(before)
			}
			was := len(h.d.Disk())
			h.d.FailAt(n)
			e := h.do(s)
			if e == api.OK {
				if n == 0 || len(h.d.Disk()) != was+n {
					t.Errorf("%s is done with %d operations, and does not fail behind %d", s.name, len(h.d.Disk())-was, n)
				}
				break
			}
			if e != api.ErrDisk || len(h.d.Disk()) != was+n {
				t.Errorf("%s, failing behind %d: %d, and %d operations", s.name, n, e, len(h.d.Disk())-was)
			}
			for _, again := range script()[i:] {
				if e := h.do(again); e != api.OK {
					t.Fatalf("%s behind an operation that failed: %d", again.name, e)
				}
			}
		}
	}
}

// TestP9FailAtAhead: the operations are counted over all changes, and one fails, not more.
func TestP9FailAtAhead(t *testing.T) {
	d := dealer.Open()
	var ends []int
	for _, s := range script() {
		s.do(d)
		ends = append(ends, len(d.Disk()))
	}
	for n := range ends[len(ends)-1] {
		d := dealer.Open()
		d.FailAt(n)
		for i, s := range script() {
			e := s.do(d)
			if want := n < ends[i]; (e == api.ErrDisk) != want {
				t.Fatalf("FailAt(%d): %s: %d, want ErrDisk: %v", n, s.name, e, want)
			}
			if e == api.ErrDisk {
				if e = s.do(d); e != api.OK {
					t.Fatalf("FailAt(%d): %s, again: %d", n, s.name, e)
				}
				break
			}
		}
	}
}

func TestP9FailAtNone(t *testing.T) {
	for _, n := range []int{-1, -2, math.MinInt, math.MaxInt} {
		d := dealer.Open()
		d.FailAt(0)
		d.FailAt(n)
		for _, s := range script() {
			if e := s.do(d); e != api.OK {
				t.Errorf("FailAt(%d): %s: %d", n, s.name, e)
			}
		}
	}
}

// TestP9FailAtAnswers: ErrDisk comes alone, as a reply and as bytes.
func TestP9FailAtAnswers(t *testing.T) {
	d := stocked(t, 3)
	d.FailAt(0)
	refuses(t, d, lease(7, 1, scalar, 2), api.ErrDisk)
	s, _ := dealer.Write(lease(7, 1, scalar, 2))
	d.FailAt(0)
	if p := d.Serve(s); p != dealer.Print(api.Reply{Code: api.ErrDisk}) {
		t.Errorf("Serve answers %q", p)
	}
	answers(t, d, lease(7, 1, scalar, 2), 0, 2)
	answers(t, d, release(7, 1), 0, 2)
	d.FailAt(0)
	if e := d.Compact(); e != api.ErrDisk {
		t.Errorf("Compact() = %d", e)
	}
	lists(t, d, api.Stock{Class: scalar, Made: 3, Leased: 2, Kept: 3})
	d.FailAt(0)
	refill(t, d, bits(1), make([]uint64, 5), api.ErrDisk)
	refuses(t, d, status(bits(1)), api.ErrClass)
}

// TestP9OfOneDealer: FailAt and Disk are those of one dealer, and of none that comes of its files.
func TestP9OfOneDealer(t *testing.T) {
	one, other := stocked(t, 3), stocked(t, 3)
	one.FailAt(0)
	answers(t, other, lease(7, 1, scalar, 2), 0, 2)
	answers(t, dealer.Restart(lay(nil, one.Disk()).all()), lease(7, 1, scalar, 2), 0, 2)
	if len(one.Disk()) >= len(other.Disk()) {
		t.Error("the operations of one dealer are another's")
	}
	refuses(t, one, lease(7, 1, scalar, 2), api.ErrDisk)
}
