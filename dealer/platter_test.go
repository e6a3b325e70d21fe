package dealer_test

import (
	"fmt"
	"maps"
	"math/rand/v2"
	"slices"
	"strings"
	"testing"

	"dealer/api"
	"dealer/dealer"
)

// inode is a file, whatever it is called: its bytes, and how many of them are left whatever is lost.
type inode struct {
	bytes string
	sure  int
}

// platter is a disk as the document tells it.
type platter struct {
	names map[string]*inode
	// left are the names that may be left: those at the last SyncDir, then those behind each change since.
	left []map[string]*inode
}

// lay does operations on a disk that has files.
func lay(files []api.File, ops []api.Op) *platter {
	p := &platter{names: map[string]*inode{}}
	for _, f := range files {
		p.names[f.Name] = &inode{bytes: f.Bytes, sure: len(f.Bytes)}
	}
	p.left = []map[string]*inode{maps.Clone(p.names)}
	for _, o := range ops {
		p.do(o)
	}
	return p
}

func (p *platter) do(o api.Op) {
	f := p.names[o.Name]
	switch o.Kind {
	case api.Write, api.Append:
		if f == nil {
			f = &inode{}
			p.names[o.Name] = f
			p.left = append(p.left, maps.Clone(p.names))
		}
		if o.Kind == api.Write {
			f.bytes, f.sure = "", 0
		}
		f.bytes += o.Bytes
	case api.Sync:
		if f != nil {
			f.sure = len(f.bytes)
		}
	case api.Rename:
		if f != nil {
			delete(p.names, o.Name)
			p.names[o.To] = f
			p.left = append(p.left, maps.Clone(p.names))
		}
	case api.SyncDir:
		p.left = []map[string]*inode{maps.Clone(p.names)}
	case api.Remove:
		if f != nil {
			delete(p.names, o.Name)
			p.left = append(p.left, maps.Clone(p.names))
		}
	default:
		panic(fmt.Sprint("no operation: ", o))
	}
}

// cut gives the files that have these names, each as long as length says.
func cut(names map[string]*inode, length func(*inode) int) []api.File {
	var files []api.File
	for _, name := range slices.Sorted(maps.Keys(names)) {
		f := names[name]
		files = append(files, api.File{Name: name, Bytes: f.bytes[:length(f)]})
	}
	return files
}

func shortest(f *inode) int { return f.sure }

func longest(f *inode) int { return len(f.bytes) }

// all gives the files that are there if nothing is lost.
func (p *platter) all() []api.File { return cut(p.names, longest) }

// each visits what may be left: any first few of the changes of names; of each file any beginning, the others being as
// short, and as long, as they may be.
func (p *platter) each(visit func([]api.File)) {
	for _, names := range p.left {
		visit(cut(names, longest))
		for _, one := range names {
			for n := one.sure; n < len(one.bytes); n++ {
				for _, others := range []func(*inode) int{shortest, longest} {
					visit(cut(names, func(f *inode) int {
						if f == one {
							return n
						}
						return others(f)
					}))
					if loose(names) == 1 {
						break
					}
				}
			}
		}
	}
}

// loose is how many files may be left with bytes lost.
func loose(names map[string]*inode) int {
	n := 0
	for _, f := range names {
		if f.sure < len(f.bytes) {
			n++
		}
	}
	return n
}

// any gives something that may be left.
func (p *platter) any(random *rand.Rand) []api.File {
	return cut(p.left[random.IntN(len(p.left))], func(f *inode) int {
		if random.IntN(3) == 0 {
			return []int{f.sure, len(f.bytes)}[random.IntN(2)]
		}
		return f.sure + random.IntN(len(f.bytes)-f.sure+1)
	})
}

// shown is all that P10 names: Classes, Leases, and the answers to a Fetch of each triple.
func shown(d *dealer.Dealer) string {
	var b strings.Builder
	classes, leases := d.Classes(), d.Leases()
	fmt.Fprintln(&b, classes, leases)
	sessions := map[int]int{}
	for _, l := range leases {
		sessions[l.Session]++
	}
	for _, c := range classes {
		for _, session := range slices.Sorted(maps.Keys(sessions)) {
			for n := range c.Made + 1 {
				for party := range 2 {
					b.WriteString(dealer.Print(d.Ask(fetch(session, c.Class, n, 1, party))))
				}
			}
		}
	}
	return b.String()
}

// step is a change, or a call that is refused.
type step struct {
	name string
	do   func(d *dealer.Dealer) api.Errno
}

func refilling(c api.Class, draws ...uint64) step {
	return step{fmt.Sprint("refill ", c), func(d *dealer.Dealer) api.Errno { return d.Refill(c, draws) }}
}

func asking(r api.Request) step {
	return step{fmt.Sprint("ask ", r), func(d *dealer.Dealer) api.Errno { return d.Ask(r).Code }}
}

func compacting() step {
	return step{"compact", func(d *dealer.Dealer) api.Errno { return d.Compact() }}
}

// script has changes of every kind, in several classes; each of them is done.
func script() []step {
	return []step{
		refilling(scalar, numbered(0, 3)...),
		asking(lease(7, 1, scalar, 2)),
		refilling(matrix(1, 2, 1), 1, 2, 3, 4, 0, 0, 0, 0, 1<<63),
		asking(release(7, 1)),
		asking(lease(8, 1, scalar, 1)),
		compacting(),
		asking(lease(8, 2, matrix(1, 2, 1), 1)),
		refilling(scalar, numbered(3, 2)...),
		asking(release(8, 2)),
		asking(lease(7, 2, scalar, 1)),
		compacting(),
		refilling(bits(2), 1, 2, 3, 4, 5, 6, 7, 8, 9, 10),
	}
}

// state is what a dealer is behind changes.
type state struct {
	steps []step
	shown string
}

// behind is the state behind one step more.
func (s state) behind(t *testing.T, more step) state {
	t.Helper()
	d := dealer.Open()
	steps := append(slices.Clone(s.steps), more)
	for _, one := range steps {
		if e := one.do(d); e != api.OK {
			t.Fatalf("%s: %d", one.name, e)
		}
	}
	return state{steps, shown(d)}
}

func empty() state { return state{nil, shown(dealer.Open())} }

// event: a change, done or ended by ErrDisk, with the first of its operations and the one behind its last.
type event struct {
	first, end int
	done       bool
	state      state // behind it, if it had been done
}

// history is that of a dealer, from Open or Restart on.
type history struct {
	t      *testing.T
	files  []api.File
	d      *dealer.Dealer
	events []event
}

func opened(t *testing.T) *history {
	return &history{t: t, d: dealer.Open(), events: []event{{done: true, state: empty()}}}
}

// now is what the dealer must show.
func (h *history) now() state {
	for _, e := range slices.Backward(h.events) {
		if e.done {
			return e.state
		}
	}
	panic("nothing was done")
}

// do does a step, and checks what it does to what is shown and to the disk.
func (h *history) do(s step) api.Errno {
	h.t.Helper()
	was, first := h.now(), len(h.d.Disk())
	e := s.do(h.d)
	if end := len(h.d.Disk()); e == api.ErrDisk || e == api.OK && end > first {
		h.events = append(h.events, event{first, end, e == api.OK, was.behind(h.t, s)})
	} else if end != first {
		h.t.Fatalf("%s: %d, with %d operations", s.name, e, end-first)
	}
	if shown(h.d) != h.now().shown {
		h.t.Fatalf("behind %s, answered %d: %q, want %q", s.name, e, shown(h.d), h.now().shown)
	}
	return e
}

// may are the states that may come back of what is left behind the first n operations.
func (h *history) may(n int) []state {
	var l []state
	for _, e := range slices.Backward(h.events) {
		if e.done && e.end <= n {
			return append(l, e.state)
		}
		if e.first < min(e.end, n) {
			l = append(l, e.state)
		}
	}
	// Within the operations of the Restart that the history begins with.
	return append(l, h.events[0].state)
}

// restart makes a dealer of files that are left behind the first n operations, and the history that begins with it.
func (h *history) restart(n int, files []api.File) *history {
	h.t.Helper()
	d := dealer.Restart(files)
	got, want := shown(d), []string{}
	for _, m := range h.may(n) {
		if m.shown == got {
			return &history{h.t, files, d, []event{{0, len(d.Disk()), true, m}}}
		}
		want = append(want, m.shown)
	}
	h.t.Fatalf("behind the operations %#v, of %q: %q, want one of %q", h.d.Disk()[:n], files, got, want)
	return nil
}

// losses restarts from all that may be left behind the first n operations.
func (h *history) losses(n int) {
	h.t.Helper()
	lay(h.files, h.d.Disk()[:n]).each(func(files []api.File) { h.restart(n, files) })
}

// allLosses restarts from all that may be left behind every operation.
func (h *history) allLosses() {
	h.t.Helper()
	for n := range len(h.d.Disk()) + 1 {
		h.losses(n)
	}
}
