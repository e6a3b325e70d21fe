package dealer_test

import (
	"math"
	"strings"
	"testing"

	"dealer/api"
	"dealer/dealer"
)

// written are requests and their bytes, with the edges of every number that each kind uses.
var written = []struct {
	r api.Request
	s string
}{
	{lease(1, 258, scalar, 2), "\x01" + "\x00\x00\x00\x01" + "\x00\x00\x01\x02" + "\x00\x01\x01\x01" + "\x00\x00\x00\x02"},
	{lease(0, 0, api.Class{}, 0), "\x01" + strings.Repeat("\x00", 16)},
	{lease(api.MaxNumber, 0x01020304, api.Class{Kind: 255, M: 255, K: 255, N: 255}, api.MaxNumber), "\x01" + "\x7f\xff\xff\xff" + "\x01\x02\x03\x04" + "\xff\xff\xff\xff" + "\x7f\xff\xff\xff"},
	{fetch(0x0a0b0c0d, api.Class{Kind: 1, M: 2, K: 3, N: 4}, 5, 6, 7), "\x02" + "\x0a\x0b\x0c\x0d" + "\x01\x02\x03\x04" + "\x00\x00\x00\x05" + "\x00\x00\x00\x06" + "\x07"},
	{fetch(0, api.Class{}, 0, 0, 0), "\x02" + strings.Repeat("\x00", 17)},
	{fetch(0, api.Class{}, api.MaxNumber, 0, 255), "\x02" + "\x00\x00\x00\x00" + "\x00\x00\x00\x00" + "\x7f\xff\xff\xff" + "\x00\x00\x00\x00" + "\xff"},
	{release(256, api.MaxNumber), "\x03" + "\x00\x00\x01\x00" + "\x7f\xff\xff\xff"},
	{release(0, 0), "\x03" + strings.Repeat("\x00", 8)},
	{status(bits(3)), "\x04" + "\x02\x03\x01\x01"},
	{status(api.Class{Kind: 9, M: 0, K: 200, N: 255}), "\x04" + "\x09\x00\xc8\xff"},
}

func TestP3WriteAndRead(t *testing.T) {
	for _, c := range written {
		if s, e := dealer.Write(c.r); s != c.s || e != api.OK {
			t.Errorf("Write(%+v) = %q, %d, want %q", c.r, s, e, c.s)
		}
		if r, e := dealer.Read(c.s); r != c.r || e != api.OK {
			t.Errorf("Read(%q) = %+v, %d, want %+v", c.s, r, e, c.r)
		}
	}
}

// place is a number of a request, the most that it may be, and the kinds of requests that use it.
type place struct {
	name string
	at   func(*api.Request) *int
	most int
	used []int
}

func places() []place {
	const l, f, r, s = api.LeaseKind, api.FetchKind, api.ReleaseKind, api.StatusKind
	return []place{
		{"Session", func(r *api.Request) *int { return &r.Session }, api.MaxNumber, []int{l, f, r}},
		{"Id", func(r *api.Request) *int { return &r.Id }, api.MaxNumber, []int{l, r}},
		{"Class.Kind", func(r *api.Request) *int { return &r.Class.Kind }, 255, []int{l, f, s}},
		{"Class.M", func(r *api.Request) *int { return &r.Class.M }, 255, []int{l, f, s}},
		{"Class.K", func(r *api.Request) *int { return &r.Class.K }, 255, []int{l, f, s}},
		{"Class.N", func(r *api.Request) *int { return &r.Class.N }, 255, []int{l, f, s}},
		{"From", func(r *api.Request) *int { return &r.From }, api.MaxNumber, []int{f}},
		{"Count", func(r *api.Request) *int { return &r.Count }, api.MaxNumber, []int{l, f}},
		{"Party", func(r *api.Request) *int { return &r.Party }, 255, []int{f}},
	}
}

func uses(p place, kind int) bool {
	for _, k := range p.used {
		if k == kind {
			return true
		}
	}
	return false
}

// TestP3WellFormed sets one number of a request at a time, used or not, to each edge of what it may be.
func TestP3WellFormed(t *testing.T) {
	for kind := api.LeaseKind; kind <= api.StatusKind; kind++ {
		for _, p := range places() {
			for _, n := range []int{math.MinInt, -p.most - 1, -256, -1, 0, 1, p.most, p.most + 1, 2*p.most + 2, 1<<32 + 1, math.MaxInt} {
				r := api.Request{Kind: kind}
				*p.at(&r) = n
				checkWellFormed(t, r, n == 0 || uses(p, kind) && n > 0 && n <= p.most)
			}
		}
	}
	for _, kind := range []int{math.MinInt, -255, -1, 0, 5, 255, 256, 257, 260, 1<<32 + 1, math.MaxInt} {
		checkWellFormed(t, api.Request{Kind: kind}, false)
	}
}

func checkWellFormed(t *testing.T, r api.Request, well bool) {
	t.Helper()
	s, e := dealer.Write(r)
	if !well {
		if s != "" || e != api.ErrMalformed {
			t.Errorf("Write(%+v) = %q, %d, want ErrMalformed", r, s, e)
		}
		refuses(t, dealer.Open(), r, api.ErrMalformed)
		return
	}
	if e != api.OK {
		t.Errorf("Write(%+v) = %q, %d, want OK", r, s, e)
	}
	if back, e := dealer.Read(s); back != r || e != api.OK {
		t.Errorf("Read(Write(%+v)) = %+v, %d", r, back, e)
	}
	if a := dealer.Open().Ask(r); a.Code == api.ErrMalformed {
		t.Errorf("Ask(%+v): ErrMalformed, but it is well formed", r)
	}
}

func TestP3ReadRefuses(t *testing.T) {
	for _, c := range written {
		for i := range len(c.s) {
			checkNoRequest(t, c.s[:i])
		}
		checkNoRequest(t, c.s+"\x00")
		checkNoRequest(t, c.s+c.s)
	}
	for kind := range 256 {
		if kind >= api.LeaseKind && kind <= api.StatusKind {
			continue
		}
		for size := range 20 {
			checkNoRequest(t, string([]byte{byte(kind)})+strings.Repeat("\x00", size))
		}
	}
}

// TestP3ReadRefusesNumbers sets the highest bit of each number of four bytes: it is beyond MaxNumber then.
func TestP3ReadRefusesNumbers(t *testing.T) {
	for _, c := range []struct {
		kind, size int
		numbers    []int
	}{{1, 17, []int{1, 5, 13}}, {2, 18, []int{1, 9, 13}}, {3, 9, []int{1, 5}}} {
		for _, at := range c.numbers {
			for _, high := range []byte{0x80, 0xff} {
				b := make([]byte, c.size)
				b[0] = byte(c.kind)
				if _, e := dealer.Read(string(b)); e != api.OK {
					t.Errorf("Read(%q): %d", b, e)
				}
				b[at] = high
				checkNoRequest(t, string(b))
			}
		}
	}
}

func checkNoRequest(t *testing.T, s string) {
	t.Helper()
	if r, e := dealer.Read(s); r != (api.Request{}) || e != api.ErrMalformed {
		t.Errorf("Read(%q) = %+v, %d, want ErrMalformed", s, r, e)
	}
}

// FuzzRead holds Read against Write: bytes are those of a request just if it is written as they are.
func FuzzRead(f *testing.F) {
	for _, c := range written {
		f.Add(c.s)
	}
	f.Add("")
	f.Add("\x05")
	f.Fuzz(func(t *testing.T, s string) {
		r, e := dealer.Read(s)
		if e != api.OK {
			checkNoRequest(t, s)
			return
		}
		if back, e := dealer.Write(r); back != s || e != api.OK {
			t.Errorf("Write(Read(%q)) = %q, %d", s, back, e)
		}
	})
}

func TestP4Print(t *testing.T) {
	for _, c := range []struct {
		r api.Reply
		s string
	}{
		{api.Reply{}, strings.Repeat("\x00", 9)},
		{api.Reply{Words: []uint64{}}, strings.Repeat("\x00", 9)},
		{api.Reply{Code: api.ErrMalformed}, "\x01" + strings.Repeat("\x00", 8)},
		{api.Reply{Code: api.ErrDisk, From: 0x01020304, Count: 0x05060708}, "\x0a" + "\x01\x02\x03\x04" + "\x05\x06\x07\x08"},
		{api.Reply{From: api.MaxNumber, Count: 1, Words: []uint64{0x0102030405060708, 0, top}}, "\x00" + "\x7f\xff\xff\xff" + "\x00\x00\x00\x01" + "\x01\x02\x03\x04\x05\x06\x07\x08" + strings.Repeat("\x00", 8) + strings.Repeat("\xff", 8)},
		{api.Reply{Code: 255, From: 1<<32 - 1, Count: 1 << 31}, "\xff" + "\xff\xff\xff\xff" + "\x80\x00\x00\x00"},
		{api.Reply{Code: 256, From: 1 << 32, Count: 1<<32 + 2}, "\x00" + "\x00\x00\x00\x00" + "\x00\x00\x00\x02"},
		{api.Reply{Code: 0x1234, From: 0x1122334455, Count: -2}, "\x34" + "\x22\x33\x44\x55" + "\xff\xff\xff\xfe"},
		{api.Reply{Code: -1, From: -1, Count: -256}, "\xff" + "\xff\xff\xff\xff" + "\xff\xff\xff\x00"},
		{api.Reply{Code: math.MinInt, From: math.MinInt, Count: math.MaxInt}, "\x00" + "\x00\x00\x00\x00" + "\xff\xff\xff\xff"},
	} {
		if s := dealer.Print(c.r); s != c.s {
			t.Errorf("Print(%v) = %q, want %q", c.r, s, c.s)
		}
	}
}
