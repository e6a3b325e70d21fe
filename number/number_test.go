package number

import "testing"

func TestPutAndTake(t *testing.T) {
	for _, c := range []struct {
		n    uint64
		size int
		s    string
	}{{0x0102, 1, "\x02"}, {0x0102, 4, "\x00\x00\x01\x02"}, {0x0102030405060708, 4, "\x05\x06\x07\x08"}, {0x0102030405060708, 8, "\x01\x02\x03\x04\x05\x06\x07\x08"}} {
		if s := string(Put([]byte("a"), c.n, c.size)); s != "a"+c.s {
			t.Errorf("Put(%x, %d) = %q", c.n, c.size, s)
		}
		if n := Take(c.s); n != c.n&(1<<(8*c.size)-1) {
			t.Errorf("Take(%q) = %x", c.s, n)
		}
	}
}
