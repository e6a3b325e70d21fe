package dealer_test

import (
	"strings"
	"testing"

	"dealer/api"
	"dealer/dealer"
)

func TestP7Serve(t *testing.T) {
	d, twin := stocked(t, 6), stocked(t, 6)
	for _, r := range []api.Request{
		status(scalar), lease(7, 1, scalar, 2), lease(7, 1, scalar, 2), lease(7, 1, scalar, 3), lease(7, 2, scalar, 5), lease(7, 2, bits(1), 1), lease(7, 2, scalar, 0),
		fetch(7, scalar, 0, 2, 0), fetch(7, scalar, 0, 2, 1), fetch(7, scalar, 0, 2, 2), fetch(8, scalar, 0, 2, 0),
		release(7, 1), release(7, 1), fetch(7, scalar, 0, 2, 0), lease(api.MaxNumber, api.MaxNumber, scalar, 4), status(scalar), status(bits(1)),
	} {
		s, e := dealer.Write(r)
		if e != api.OK {
			t.Fatalf("Write(%+v): %d", r, e)
		}
		if got, want := d.Serve(s), dealer.Print(twin.Ask(r)); got != want {
			t.Errorf("Serve of %+v = %q, want %q", r, got, want)
		}
		if shown(d) != shown(twin) {
			t.Fatalf("Serve of %+v leaves another dealer than Ask", r)
		}
	}
}

func TestP7Malformed(t *testing.T) {
	d := stocked(t, 6)
	was := shown(d)
	s, _ := dealer.Write(lease(7, 1, scalar, 2))
	bad := []string{"", "\x00", "\x05", "\xff", s + "\x00", "\x00" + s, s[:5] + "\xff" + s[6:], strings.Repeat("\x01", 1000)}
	for i := range len(s) {
		bad = append(bad, s[:i])
	}
	for _, b := range bad {
		if p := d.Serve(b); p != "\x01\x00\x00\x00\x00\x00\x00\x00\x00" {
			t.Errorf("Serve(%q) = %q", b, p)
		}
	}
	if shown(d) != was {
		t.Error("bytes that are no request change something")
	}
}
