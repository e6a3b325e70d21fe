package wire

import (
	"dealer/api"
	"dealer/number"
)

// Write writes a request that Check or Read gave as bytes.
func Write(r Request) string {
	b := []byte{byte(r.Plain().Kind)}
	for _, f := range r.fields() {
		b = number.Put(b, uint64(*f.at), f.size)
	}
	return string(b)
}

// Read finds the request whose bytes are s; ErrMalformed, if there is none.
func Read(s string) (Request, api.Errno) {
	if s == "" {
		return nil, api.ErrMalformed
	}
	r := ofKind(api.Request{Kind: int(s[0])})
	if r == nil || !fill(r.fields(), s[1:]) {
		return nil, api.ErrMalformed
	}
	return r, api.OK
}

// Print writes a reply as bytes.
func Print(r api.Reply) string {
	b := make([]byte, 0, 9+8*len(r.Words))
	b = number.Put(b, uint64(r.Code), 1)
	b = number.Put(b, uint64(r.From), 4)
	b = number.Put(b, uint64(r.Count), 4)
	for _, word := range r.Words {
		b = number.Put(b, word, 8)
	}
	return string(b)
}

// fill takes the numbers out of s, and tells whether s is just them and each is one that its field may hold.
func fill(fields []field, s string) bool {
	for _, f := range fields {
		if len(s) < f.size {
			return false
		}
		n := number.Take(s[:f.size])
		// Held against the most ahead of the conversion: an int may have no more than 32 bits.
		if n > uint64(f.most) {
			return false
		}
		*f.at = int(n)
		s = s[f.size:]
	}
	return s == ""
}
