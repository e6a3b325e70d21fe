package journal

import (
	"slices"
	"strings"
	"testing"

	"dealer/api"
)

func framed(records ...string) string {
	var s string
	for _, r := range records {
		s += frame(r)
	}
	return s
}

func none() []string { return nil }

func on(bytes string) []api.File { return []api.File{{Name: file, Bytes: bytes}} }

// TestReadCut: of any beginning the records come that are whole in it.
func TestReadCut(t *testing.T) {
	records := []string{"one", "", strings.Repeat("two", 100), "\x00\x00"}
	whole, s := 0, framed(records...)
	for n := range len(s) + 1 {
		if whole < len(records) && n == len(framed(records[:whole+1]...)) {
			whole++
		}
		if got := Read(on(s[:n])); !slices.Equal(got, records[:whole]) {
			t.Errorf("of %d bytes: %q, want %q", n, got, records[:whole])
		}
	}
}

// TestReadBent: a byte that is turned ends the reading ahead of its record.
func TestReadBent(t *testing.T) {
	records := []string{"one", "two", "three"}
	s := framed(records...)
	for i := range len(s) {
		whole := 0
		for whole < len(records) && len(framed(records[:whole+1]...)) <= i {
			whole++
		}
		for by := 1; by < 256; by++ {
			b := []byte(s)
			b[i] += byte(by)
			if got := Read(on(string(b))); !slices.Equal(got, records[:whole]) {
				t.Fatalf("with byte %d turned: %q, want %q", i, got, records[:whole])
			}
		}
	}
}

func TestReadOtherFiles(t *testing.T) {
	for _, files := range [][]api.File{nil, {{}}, on(""), {{Name: draft, Bytes: framed("one")}}, {{Name: "a", Bytes: framed("one")}}} {
		if got := Read(files); len(got) != 0 {
			t.Errorf("of %q: %q", files, got)
		}
	}
	if got := Read(append(on(framed("one")), api.File{Name: draft, Bytes: framed("two")})); !slices.Equal(got, []string{"one"}) {
		t.Errorf("beside a draft: %q", got)
	}
}

// TestAdd: a record is appended where the file is known; else all are written anew.
func TestAdd(t *testing.T) {
	var j Journal
	anew := func(records ...string) []api.Op {
		return []api.Op{{Kind: api.Write, Name: draft, Bytes: framed(records...)}, {Kind: api.Sync, Name: draft}, {Kind: api.Rename, Name: draft, To: file}, {Kind: api.SyncDir}}
	}
	behind := func(record string) []api.Op {
		return []api.Op{{Kind: api.Append, Name: file, Bytes: framed(record)}, {Kind: api.Sync, Name: file}}
	}
	did := 0
	does := func(done bool, ok bool, want []api.Op) {
		t.Helper()
		if got := j.Done()[did:]; ok != done || !slices.Equal(got, want) {
			t.Errorf("done: %v, with the operations %#v, want %v, %#v", ok, got, done, want)
		}
		did = len(j.Done())
	}
	two := func() []string { return []string{"one", "two"} }
	does(true, j.Add("one", none), anew("one"))
	does(true, j.Add("two", none), behind("two"))
	for n := range 2 {
		j.FailAt(n)
		does(false, j.Add("three", none), behind("three")[:n])
		for m := range 4 {
			j.FailAt(m)
			does(false, j.Add("four", two), anew("one", "two", "four")[:m])
		}
		does(true, j.Replace(two()), anew("one", "two"))
	}
	for n := range 4 {
		j.FailAt(n)
		does(false, j.Replace([]string{"two"}), anew("two")[:n])
		does(true, j.Add("three", two), anew("one", "two", "three"))
	}
	does(true, j.Add("four", none), behind("four"))
}
