package disk

import (
	"math"
	"slices"
	"testing"

	"dealer/api"
)

func op(name string) api.Op { return api.Op{Kind: api.Append, Name: name, Bytes: "x"} }

func holds(t *testing.T, d *Disk, names ...string) {
	t.Helper()
	var want []api.Op
	for _, name := range names {
		want = append(want, op(name))
	}
	if done := d.Done(); !slices.Equal(done, want) {
		t.Errorf("done is %v, want %v", done, want)
	}
}

// TestFailAt: the one behind n more fails, over all calls, with all that would come behind it in its own; then none does.
func TestFailAt(t *testing.T) {
	for n, want := range [][]string{{"c", "d"}, {"a", "c", "d"}, {"a", "b", "d"}, {"a", "b", "c"}} {
		var d Disk
		d.FailAt(n)
		first := d.Do(op("a"), op("b"))
		second, third := d.Do(op("c")), d.Do(op("d"))
		if first != (n > 1) || second != (n != 2) || third != (n != 3) {
			t.Errorf("with FailAt(%d): %v, %v, %v", n, first, second, third)
		}
		holds(t, &d, want...)
	}
}

func TestFailAtIsTakenBack(t *testing.T) {
	var d Disk
	for _, n := range []int{-1, math.MinInt, math.MaxInt, 3} {
		d.FailAt(0)
		d.FailAt(n)
		if !d.Do(op("a"), op("b"), op("c")) {
			t.Fatalf("an operation fails behind FailAt(%d)", n)
		}
	}
	if d.Do(op("a")) {
		t.Error("FailAt(3) is forgotten")
	}
}

func TestDoneIsNew(t *testing.T) {
	var d Disk
	d.Do(op("a"), op("b"))
	l := d.Done()
	l[0] = op("z")
	_ = append(l[:1], op("z"))
	d.Do(op("c"))
	holds(t, &d, "a", "b", "c")
}
