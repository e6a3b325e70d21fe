package dealer_test

import (
	"math"
	"math/rand/v2"
	"slices"
	"testing"

	"dealer/api"
	"dealer/dealer"
)

// someNumbers are those at which numbers go wrong.
var someNumbers = []int{math.MinInt, math.MinInt32, -256, -1, 0, 0, 0, 1, 1, 1, 2, 3, 4, 40, 41, 200, 255, 256, api.MaxNumber - 39, api.MaxNumber, api.MaxNumber + 1, 1 << 32, math.MaxInt}

func anyOf(random *rand.Rand) int { return someNumbers[random.IntN(len(someNumbers))] }

func anyClass(random *rand.Rand) api.Class {
	if random.IntN(2) == 0 {
		return allClasses()[random.IntN(10)]
	}
	return api.Class{Kind: anyOf(random), M: anyOf(random), K: anyOf(random), N: anyOf(random)}
}

// anyRequest may have anything in it; half of them have nothing that their kind does not use.
func anyRequest(random *rand.Rand) api.Request {
	r := api.Request{Kind: random.IntN(6), Session: anyOf(random), Id: anyOf(random), Class: anyClass(random), From: anyOf(random), Count: anyOf(random), Party: anyOf(random)}
	if random.IntN(2) == 0 {
		return r
	}
	switch r.Kind {
	case api.LeaseKind:
		return lease(r.Session, r.Id, r.Class, r.Count)
	case api.FetchKind:
		return fetch(r.Session, r.Class, r.From, r.Count, r.Party)
	case api.ReleaseKind:
		return release(r.Session, r.Id)
	}
	return status(r.Class)
}

// TestP1NoPanic: whatever is handed in, each call comes back, and an error comes alone.
func TestP1NoPanic(t *testing.T) {
	random := rand.New(rand.NewPCG(1, 1))
	d := stocked(t, 20)
	for range 20000 {
		r := anyRequest(random)
		if s, e := dealer.Write(r); e != api.OK && s != "" {
			t.Fatalf("Write(%+v) = %q, %d", r, s, e)
		}
		if a := d.Ask(r); a.Code != api.OK && !same(a, api.Reply{Code: a.Code}) {
			t.Fatalf("Ask(%+v) = %v", r, a)
		}
		if s, e := dealer.Write(r); e == api.OK {
			d.Serve(s)
		}
		if random.IntN(100) == 0 {
			d.Compact()
			d.FailAt(anyOf(random))
		}
		d.Refill(anyClass(random), make([]uint64, random.IntN(70)))
		dealer.Print(api.Reply{Code: api.Errno(anyOf(random)), From: anyOf(random), Count: anyOf(random)})
	}
	dealer.Print(api.Reply{Words: make([]uint64, 100000)})
	refill(t, d, scalar, make([]uint64, 5*100000), api.ErrDraws)
}

// TestP1Restart: the methods are called on what Restart gave, too.
func TestP1Restart(t *testing.T) {
	for _, files := range [][]api.File{nil, {}, {{Name: "a", Bytes: "b"}, {Name: "a"}}} {
		d := dealer.Restart(files)
		if d == nil {
			t.Fatalf("Restart(%v) = nil", files)
		}
		lists(t, d)
		compacts(t, d)
		refill(t, d, scalar, numbered(0, 2), api.OK)
		answers(t, d, lease(1, 1, scalar, 2), 0, 2)
		answers(t, d, release(1, 1), 0, 2)
		compacts(t, d)
		lists(t, d, api.Stock{Class: scalar, Made: 2, Leased: 2})
	}
}

// TestP1NothingChanges: behind errors of every kind all is as it was.
func TestP1NothingChanges(t *testing.T) {
	d := stocked(t, 10)
	answers(t, d, lease(7, 1, scalar, 4), 0, 4)
	was := shown(d)
	for range 3 {
		refuses(t, d, release(7, 2), api.ErrLease)
		refuses(t, d, release(8, 1), api.ErrLease)
		refuses(t, d, release(7, -1), api.ErrMalformed)
		refuses(t, d, lease(7, 1, scalar, 5), api.ErrConflict)
		refuses(t, d, lease(7, 2, scalar, 7), api.ErrFew)
		refuses(t, d, lease(7, 2, scalar, 41), api.ErrCount)
		refuses(t, d, lease(7, 2, bits(1), 1), api.ErrClass)
		refuses(t, d, lease(-1, 2, scalar, 1), api.ErrMalformed)
		refuses(t, d, fetch(8, scalar, 0, 1, 0), api.ErrLease)
		refuses(t, d, fetch(7, scalar, 0, 1, 2), api.ErrParty)
		refill(t, d, scalar, make([]uint64, 6), api.ErrDraws)
		refill(t, d, bits(1), nil, api.ErrDraws)
		refill(t, d, api.Class{}, make([]uint64, 5), api.ErrClass)
		answers(t, d, status(scalar), 4, 10)
		refuses(t, d, status(bits(1)), api.ErrClass)
		answers(t, d, fetch(7, scalar, 0, 4, 1), 0, 4, sharesOf(0, 4, 1)...)
		if shown(d) != was {
			t.Errorf("errors changed %q to %q", was, shown(d))
		}
	}
	answers(t, d, lease(7, 2, scalar, 6), 4, 6)
}

// TestP2DrawsAreNotKept: draws, and what stands behind them, are not written into, and may be written into afterwards.
func TestP2DrawsAreNotKept(t *testing.T) {
	for _, c := range allClasses() {
		d, each := dealer.Open(), drawsOf(c)
		room := make([]uint64, 4*each)
		for i := range room {
			room[i] = uint64(i)*0x9e3779b97f4a7c15 + 1
		}
		before := slices.Clone(room)
		refill(t, d, c, room[:2*each], api.OK)
		if !slices.Equal(room, before) {
			t.Fatalf("Refill of %v wrote into what it was handed", c)
		}
		answers(t, d, lease(1, 1, c, 2), 0, 2)
		first, second := d.Ask(fetch(1, c, 0, 2, 0)), d.Ask(fetch(1, c, 0, 2, 1))
		clear(room)
		answers(t, d, fetch(1, c, 0, 2, 0), 0, 2, first.Words...)
		answers(t, d, fetch(1, c, 0, 2, 1), 0, 2, second.Words...)
	}
}

func TestP2AnswersAreNew(t *testing.T) {
	d := stocked(t, 12)
	answers(t, d, lease(1, 1, scalar, 6), 0, 6)
	answers(t, d, lease(1, 2, scalar, 6), 6, 6)
	for _, count := range []int{1, 2, 3, 12} {
		for party := range 2 {
			kept := d.Ask(fetch(1, scalar, 0, count, party))
			again := d.Ask(fetch(1, scalar, 0, count, party))
			overwrite(d.Ask(fetch(1, scalar, 0, count, party)).Words, 0xdead)
			overwrite(again.Words, 0xdead)
			if !slices.Equal(kept.Words, sharesOf(0, count, party)) {
				t.Errorf("two answers share room: %v", kept.Words)
			}
		}
	}
	for party := range 2 {
		answers(t, d, fetch(1, scalar, 0, 12, party), 0, 12, sharesOf(0, 12, party)...)
	}
}

// overwrite writes into a list and into its spare room.
func overwrite[T any](list []T, with T) {
	for i := range list[:cap(list)] {
		list[:cap(list)][i] = with
	}
}

// TestP2ListsAreNew: Classes, Leases and Disk hand out lists that are the caller's.
func TestP2ListsAreNew(t *testing.T) {
	d := stocked(t, 12)
	for i := range 5 {
		answers(t, d, lease(1, i, scalar, 2), 2*i, 2)
		was, classes, leases, ops := shown(d), slices.Clone(d.Classes()), slices.Clone(d.Leases()), slices.Clone(d.Disk())
		overwrite(d.Classes(), api.Stock{Made: 99})
		overwrite(d.Leases(), api.Lease{Session: 99})
		overwrite(d.Disk(), api.Op{Name: "99"})
		if shown(d) != was || !slices.Equal(d.Disk(), ops) {
			t.Fatal("the dealer hangs on lists that came out of it")
		}
		if !slices.Equal(d.Classes(), classes) || !slices.Equal(d.Leases(), leases) {
			t.Fatal("two lists share room")
		}
	}
	// What is done later is not to be seen in a list that came out earlier.
	classes, leases, ops := d.Classes(), d.Leases(), d.Disk()
	answers(t, d, release(1, 0), 0, 2)
	compacts(t, d)
	if classes[0].Kept != 12 || leases[0].Released || slices.Equal(d.Disk(), ops) {
		t.Error("a list changed in the caller's hands")
	}
}

func TestP2PrintOnlyReads(t *testing.T) {
	room := []uint64{1, 2, 3, 4}
	dealer.Print(api.Reply{Words: room[:2]})
	if !slices.Equal(room, []uint64{1, 2, 3, 4}) {
		t.Errorf("Print wrote into the words: %v", room)
	}
}

func TestP2DealersAreApart(t *testing.T) {
	one, other := stocked(t, 5), stocked(t, 3)
	answers(t, one, lease(1, 1, scalar, 4), 0, 4)
	answers(t, other, status(scalar), 0, 3)
	refuses(t, other, fetch(1, scalar, 0, 1, 0), api.ErrLease)
	answers(t, other, lease(1, 1, scalar, 2), 0, 2)
	answers(t, one, status(scalar), 4, 5)
	answers(t, one, lease(1, 1, scalar, 4), 0, 4)
	refuses(t, dealer.Open(), status(scalar), api.ErrClass)
}

// TestLeasedOnce asks at random, and holds to it that no triple is in two leases, and that each has the shares it had.
func TestLeasedOnce(t *testing.T) {
	random := rand.New(rand.NewPCG(2, 2))
	for range 50 {
		d, made := dealer.Open(), 0
		owner := map[int][2]int{}
		for range 300 {
			session, id := random.IntN(4), random.IntN(12)
			if n := 1 + random.IntN(api.MaxRefill); random.IntN(4) == 0 && made+n <= api.MaxMade {
				refill(t, d, scalar, numbered(made, n), api.OK)
				made += n
			}
			a := d.Ask(lease(session, id, scalar, 1+random.IntN(8)))
			if a.Code != api.OK {
				continue
			}
			for i := a.From; i < a.From+a.Count; i++ {
				if was, ok := owner[i]; ok && was != [2]int{session, id} || i >= made {
					t.Fatalf("triple %d of %d is leased to %v and to %d, %d", i, made, was, session, id)
				}
				owner[i] = [2]int{session, id}
			}
			party := random.IntN(2)
			answers(t, d, fetch(session, scalar, a.From, a.Count, party), a.From, a.Count, sharesOf(a.From, a.Count, party)...)
			answers(t, d, status(scalar), len(owner), made)
		}
	}
}
