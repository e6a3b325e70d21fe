package dealer_test

import (
	"slices"
	"testing"

	"dealer/api"
	"dealer/dealer"
)

const top = 1<<64 - 1

var scalar = api.Class{Kind: api.Scalar, M: 1, K: 1, N: 1}

func matrix(m, k, n int) api.Class { return api.Class{Kind: api.Matrix, M: m, K: k, N: n} }

func bits(m int) api.Class { return api.Class{Kind: api.Bits, M: m, K: 1, N: 1} }

func lease(session, id int, c api.Class, count int) api.Request {
	return api.Request{Kind: api.LeaseKind, Session: session, Id: id, Class: c, Count: count}
}

func fetch(session int, c api.Class, from, count, party int) api.Request {
	return api.Request{Kind: api.FetchKind, Session: session, Class: c, From: from, Count: count, Party: party}
}

func release(session, id int) api.Request {
	return api.Request{Kind: api.ReleaseKind, Session: session, Id: id}
}

func status(c api.Class) api.Request {
	return api.Request{Kind: api.StatusKind, Class: c}
}

// drawsOf is how many draws a triple of the class takes, reckoned by the formulas of the document.
func drawsOf(c api.Class) int {
	switch c.Kind {
	case api.Matrix:
		return 2*(c.M*c.K+c.K*c.N) + c.M*c.N
	case api.Bits:
		return 5 * c.M
	}
	return 5
}

// numbered gives the draws of so many Scalar triples, from the one numbered first on, each with shares that show its number.
func numbered(first, count int) []uint64 {
	var draws []uint64
	for i := first; i < first+count; i++ {
		n := uint64(i)
		draws = append(draws, n+1, n+2, 1000+n, 2000+n, 3000+n)
	}
	return draws
}

// sharesOf are the shares that a party has of the Scalar triples that numbered made.
func sharesOf(from, count, party int) []uint64 {
	var words []uint64
	for i := from; i < from+count; i++ {
		n := uint64(i)
		if party == 0 {
			words = append(words, 1000+n, 2000+n, 3000+n)
		} else {
			words = append(words, n+1-(1000+n), n+2-(2000+n), (n+1)*(n+2)-(3000+n))
		}
	}
	return words
}

// stocked is a dealer with so many Scalar triples, made by numbered.
func stocked(t *testing.T, count int) *dealer.Dealer {
	t.Helper()
	d := dealer.Open()
	for made := 0; made < count; {
		some := min(api.MaxRefill, count-made)
		refill(t, d, scalar, numbered(made, some), api.OK)
		made += some
	}
	return d
}

func refill(t *testing.T, d *dealer.Dealer, c api.Class, draws []uint64, want api.Errno) {
	t.Helper()
	if e := d.Refill(c, draws); e != want {
		t.Fatalf("Refill(%v, %d draws) = %d, want %d", c, len(draws), e, want)
	}
}

func same(a, b api.Reply) bool {
	return a.Code == b.Code && a.From == b.From && a.Count == b.Count && slices.Equal(a.Words, b.Words)
}

// answers checks that a request is answered OK, with From, Count and the words.
func answers(t *testing.T, d *dealer.Dealer, r api.Request, from, count int, words ...uint64) {
	t.Helper()
	want := api.Reply{From: from, Count: count, Words: words}
	if a := d.Ask(r); !same(a, want) {
		t.Errorf("Ask(%+v) = %v, want %v", r, a, want)
	}
}

// refuses checks that a request is answered by an error, and that nothing else is in the answer.
func refuses(t *testing.T, d *dealer.Dealer, r api.Request, e api.Errno) {
	t.Helper()
	if a := d.Ask(r); !same(a, api.Reply{Code: e}) {
		t.Errorf("Ask(%+v) = %v, want the Code %d alone", r, a, e)
	}
}

// lists checks what Classes tells.
func lists(t *testing.T, d *dealer.Dealer, want ...api.Stock) {
	t.Helper()
	if l := d.Classes(); !slices.Equal(l, want) {
		t.Errorf("Classes() = %v, want %v", l, want)
	}
}

func compacts(t *testing.T, d *dealer.Dealer) {
	t.Helper()
	if e := d.Compact(); e != api.OK {
		t.Fatalf("Compact() = %d", e)
	}
}
