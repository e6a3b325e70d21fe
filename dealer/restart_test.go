package dealer_test

import (
	"math/rand/v2"
	"strings"
	"testing"

	"dealer/api"
	"dealer/dealer"
)

// done is the history of a dealer that did so many steps of the script.
func done(t *testing.T, steps int) *history {
	t.Helper()
	h := opened(t)
	for _, s := range script()[:steps] {
		if e := h.do(s); e != api.OK {
			t.Fatalf("%s: %d", s.name, e)
		}
	}
	return h
}

// TestP10NothingLost: behind each change, the files make the same dealer.
func TestP10NothingLost(t *testing.T) {
	for n := range len(script()) + 1 {
		h := done(t, n)
		ops := h.d.Disk()
		if got := shown(dealer.Restart(lay(nil, ops).all())); got != h.now().shown {
			t.Errorf("behind %d steps: %q, want %q", n, got, h.now().shown)
		}
	}
}

// TestP10Lost: all is lost behind each operation.
func TestP10Lost(t *testing.T) {
	done(t, len(script())).allLosses()
}

// TestP10ManyTriples: a store as great as may be comes back.
func TestP10ManyTriples(t *testing.T) {
	random := rand.New(rand.NewPCG(4, 4))
	d := dealer.Open()
	for i, c := range []api.Class{matrix(3, 3, 3), scalar, bits(3), matrix(1, 2, 3), matrix(3, 1, 2), bits(1)} {
		for made := 0; made < api.MaxMade; {
			some := min(api.MaxRefill, api.MaxMade-made)
			draws := make([]uint64, some*drawsOf(c))
			for i := range draws {
				draws[i] = random.Uint64()
			}
			refill(t, d, c, draws, api.OK)
			made += some
		}
		for id := range 5 {
			answers(t, d, lease(i, id, c, api.MaxCount), id*api.MaxCount, api.MaxCount)
		}
		answers(t, d, release(i, i%5), i%5*api.MaxCount, api.MaxCount)
	}
	for range 2 {
		again := dealer.Restart(lay(nil, d.Disk()).all())
		if shown(again) != shown(d) {
			t.Fatal("a great store does not come back")
		}
		refuses(t, again, lease(9, 9, scalar, 1), api.ErrFew)
		compacts(t, d)
	}
}

// TestP10Failed: each operation of each change fails, and all is lost then, and behind each operation of the change that
// comes next, be it the same again or another.
func TestP10Failed(t *testing.T) {
	t.Parallel()
	for i, s := range script() {
		for n := 0; ; n++ {
			h := done(t, i)
			h.d.FailAt(n)
			if h.do(s) == api.OK {
				break
			}
			was := len(h.d.Disk())
			h.losses(was)
			for _, next := range []step{s, refilling(bits(1), 1, 2, 3, 4, 5)} {
				h := done(t, i)
				h.d.FailAt(n)
				h.do(s)
				if e := h.do(next); e != api.OK {
					t.Fatalf("%s behind an operation that failed: %d", next.name, e)
				}
				for k := was; k <= len(h.d.Disk()); k++ {
					h.losses(k)
				}
			}
		}
	}
}

// TestP10FailedTwice: of two changes that end by ErrDisk, one after the other, none brings back the other; and a change
// that is done brings back none.
func TestP10FailedTwice(t *testing.T) {
	t.Parallel()
	changes := []step{asking(release(8, 1)), asking(lease(9, 9, scalar, 1)), refilling(bits(1), 1, 2, 3, 4, 5), compacting()}
	for _, first := range changes {
		for _, second := range changes {
			for n := range 4 {
				for m := range 4 {
					h := done(t, 9)
					for i, s := range []step{first, second} {
						h.d.FailAt([]int{n, m}[i])
						h.do(s)
					}
					h.d.FailAt(-1)
					h.losses(len(h.d.Disk()))
					if e := h.do(refilling(bits(2), make([]uint64, 10)...)); e != api.OK {
						t.Fatalf("the change behind two that failed: %d", e)
					}
					h.losses(len(h.d.Disk()))
				}
			}
		}
	}
}

// TestP10Again: of the same files the same comes, and of what that Restart leaves, too.
func TestP10Again(t *testing.T) {
	t.Parallel()
	h := done(t, len(script()))
	for n := range len(h.d.Disk()) + 1 {
		lay(nil, h.d.Disk()[:n]).each(func(files []api.File) {
			first := h.restart(n, files)
			for range 2 {
				d := dealer.Restart(files)
				if shown(d) != first.now().shown {
					t.Fatalf("of %q: %q, and again: %q", files, first.now().shown, shown(d))
				}
				files := lay(files, d.Disk()).all()
				if got := shown(dealer.Restart(files)); got != first.now().shown {
					t.Fatalf("of %q: %q, want %q", files, got, first.now().shown)
				}
			}
		})
	}
	// All is lost behind each operation of a Restart itself.
	for n := range len(h.d.Disk()) + 1 {
		h.restart(n, lay(nil, h.d.Disk()[:n]).all()).allLosses()
	}
}

// TestP10GoOn: a change behind a Restart, be the tail cut off wherever it may, with all lost again behind each operation.
func TestP10GoOn(t *testing.T) {
	t.Parallel()
	random := rand.New(rand.NewPCG(5, 5))
	h := done(t, len(script()))
	for n := range len(h.d.Disk()) + 1 {
		for range 3 {
			next := h.restart(n, lay(nil, h.d.Disk()[:n]).any(random))
			for _, s := range []step{refilling(bits(3), make([]uint64, 15)...), asking(lease(5, 5, bits(3), 1))} {
				if e := next.do(s); e != api.OK {
					t.Fatalf("%s behind a Restart: %d", s.name, e)
				}
			}
			next.allLosses()
		}
	}
}

// someStep is a change at random; many are refused. The draws never come again, so that shares tell triples apart.
func someStep(random *rand.Rand) step {
	c := []api.Class{scalar, bits(1), matrix(1, 2, 1)}[random.IntN(3)]
	session, id := random.IntN(2), random.IntN(6)
	switch random.IntN(7) {
	case 0, 1:
		draws := make([]uint64, (1+random.IntN(3))*drawsOf(c))
		for i := range draws {
			draws[i] = random.Uint64()
		}
		return refilling(c, draws...)
	case 2, 3, 4:
		return asking(lease(session, id, c, 1+random.IntN(2)))
	case 5:
		return asking(release(session, id))
	}
	return compacting()
}

// owners: by the shares of a triple the lease that it was told to be one of.
type owners map[string][2]int

// tell notes all leases that a dealer tells, and whether a triple is in two.
func (o owners) tell(t *testing.T, d *dealer.Dealer) {
	t.Helper()
	for _, l := range d.Leases() {
		for i := l.From; i < l.From+l.Count; i++ {
			a := d.Ask(fetch(l.Session, l.Class, i, 1, 0))
			if a.Code != api.OK {
				continue // released
			}
			shares, name := dealer.Print(api.Reply{Words: a.Words}), [2]int{l.Session, l.Id}
			if was, ok := o[shares]; ok && was != name {
				t.Fatalf("a triple is leased to %v and to %v", was, name)
			}
			o[shares] = name
		}
	}
}

// TestP10AtRandom: changes, operations that fail, losses and Restarts, as they come.
func TestP10AtRandom(t *testing.T) {
	t.Parallel()
	random := rand.New(rand.NewPCG(6, 6))
	for range 60 {
		h, told := opened(t), owners{}
		for range 60 {
			if random.IntN(4) == 0 {
				h.d.FailAt(random.IntN(7) - 1)
			}
			h.do(someStep(random))
			told.tell(t, h.d)
			if random.IntN(6) == 0 {
				ops := h.d.Disk()
				h = h.restart(len(ops), lay(h.files, ops).any(random))
				told.tell(t, h.d)
			}
		}
	}
}

// sound checks that a dealer is one: no triple is in two leases, none is leased that is not made, there is no more of
// anything than may be, each Fetch hands out all shares, and it can go on and come back.
func sound(t *testing.T, files []api.File) {
	t.Helper()
	d := dealer.Restart(files)
	if d == nil {
		t.Fatalf("Restart(%q) = nil", files)
	}
	classes, leases := d.Classes(), d.Leases()
	if len(classes) > api.MaxClasses || len(leases) > api.MaxLeases {
		t.Fatalf("of %q: %v, %v", files, classes, leases)
	}
	leased, names := map[api.Class]int{}, map[[2]int]int{}
	for _, l := range leases {
		names[[2]int{l.Session, l.Id}]++
		if l.From != leased[l.Class] || l.Count < 1 || l.Count > api.MaxCount || min(l.Session, l.Id) < 0 || max(l.Session, l.Id) > api.MaxNumber || names[[2]int{l.Session, l.Id}] > 1 {
			t.Fatalf("of %q: the leases %v", files, leases)
		}
		leased[l.Class] += l.Count
		if a := d.Ask(fetch(l.Session, l.Class, l.From, l.Count, 1)); !l.Released && len(a.Words) != l.Count*wordsOf(l.Class) || l.Released && a.Code != api.ErrLease {
			t.Fatalf("of %q: the shares of %v are %v", files, l, a)
		}
	}
	seen := map[api.Class]int{}
	for _, c := range classes {
		seen[c.Class]++
		if c.Made < 1 || c.Made > api.MaxMade || c.Leased != leased[c.Class] || c.Leased > c.Made || c.Kept > c.Made || c.Kept < c.Made-c.Leased || seen[c.Class] > 1 {
			t.Fatalf("of %q: %v, %v", files, classes, leases)
		}
		delete(leased, c.Class)
	}
	if len(leased) != 0 {
		t.Fatalf("of %q: leases of no class: %v", files, leased)
	}
	d.Refill(scalar, numbered(0, 1))
	d.Ask(lease(55, 55, scalar, 1))
	d.Compact()
	if got := shown(dealer.Restart(lay(files, d.Disk()).all())); got != shown(d) {
		t.Fatalf("of %q, and changes behind it: %q, want %q", files, got, shown(d))
	}
}

// wordsOf is how many words one party's shares of a triple are.
func wordsOf(c api.Class) int {
	if c.Kind == api.Bits {
		return 3 * c.M
	}
	return c.M*c.K + c.K*c.N + c.M*c.N
}

// TestP10Bent: a dealer's files with a byte turned, taken out or put in, or with a piece lost.
func TestP10Bent(t *testing.T) {
	t.Parallel()
	for _, n := range []int{3, 5, 6, 10, len(script())} {
		h := done(t, n)
		files := lay(nil, h.d.Disk()).all()
		for f := range files {
			s := files[f].Bytes
			bend := func(bytes string) {
				bent := append([]api.File(nil), files...)
				bent[f].Bytes = bytes
				sound(t, bent)
			}
			for i := range len(s) {
				for _, by := range []byte{1, 2, 127, 128, 255} {
					bend(s[:i] + string([]byte{s[i] + by}) + s[i+1:])
				}
				bend(s[:i] + s[i+1:])
				bend(s[:i])
				bend(s[i:])
				bend(s[:i] + "\x00" + s[i:])
				bend(s[:i] + "\xff" + s[i:])
				bend(s[:i] + s[i/2:])
			}
			bend(s + s)
			bend(s + "\x00")
			bend(s + strings.Repeat("\xff", 100))
		}
	}
}

// TestP10NoDealers: files that are no dealer's.
func TestP10NoDealers(t *testing.T) {
	var names []string
	for _, o := range done(t, len(script())).d.Disk() {
		names = append(names, o.Name, o.To)
	}
	random := rand.New(rand.NewPCG(7, 7))
	for _, name := range append(names, "", "a", "\xff", strings.Repeat("a", 1000)) {
		for _, bytes := range []string{"", "\x00", "a", "\xff\xff\xff\xff\xff\xff\xff\xff", strings.Repeat("\x00", 1000), strings.Repeat("\xff", 1000), strings.Repeat("\x01", 1000)} {
			sound(t, []api.File{{Name: name, Bytes: bytes}})
			sound(t, []api.File{{Name: name, Bytes: bytes}, {Name: name}})
		}
		for range 100 {
			b := make([]byte, random.IntN(200))
			for i := range b {
				b[i] = byte(random.IntN(256) >> random.IntN(9))
			}
			sound(t, []api.File{{Name: name, Bytes: string(b)}})
		}
	}
	sound(t, nil)
	sound(t, []api.File{{}, {}, {}})
}

// TestP10OtherFiles: files that are not the dealer's own lie beside its own, and are nothing to it.
func TestP10OtherFiles(t *testing.T) {
	h := done(t, len(script()))
	files := lay(nil, h.d.Disk()).all()
	for _, other := range []string{"", "a", "zzz"} {
		l := append([]api.File{{Name: other, Bytes: "\x00\x00"}}, files...)
		if got := shown(dealer.Restart(append(l, api.File{Name: other + "b"}))); got != h.now().shown {
			t.Errorf("beside %q: %q", other, got)
		}
	}
}

// TestP2FilesAreOnlyRead: the list of files is not written into, nor what stands behind it, and may be afterwards.
func TestP2FilesAreOnlyRead(t *testing.T) {
	h := done(t, len(script()))
	files := lay(nil, h.d.Disk()).all()
	room := append(append([]api.File(nil), files...), api.File{Name: "spare"}, api.File{Name: "room"})
	was := append([]api.File(nil), room...)
	d := dealer.Restart(room[:len(files)])
	d.Refill(scalar, numbered(5, 1))
	for i := range room {
		if room[i] != was[i] {
			t.Errorf("the file %d is %v, was %v", i, room[i], was[i])
		}
	}
	before := shown(d)
	clear(room)
	if shown(d) != before {
		t.Error("the files are kept")
	}
}

func FuzzRestart(f *testing.F) {
	d := dealer.Open()
	for _, s := range script() {
		s.do(d)
		for _, file := range lay(nil, d.Disk()).all() {
			f.Add(file.Name, file.Bytes)
		}
	}
	f.Fuzz(func(t *testing.T, name, bytes string) {
		sound(t, []api.File{{Name: name, Bytes: bytes}})
	})
}
