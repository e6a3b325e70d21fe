// Package number: whole numbers as bytes, the highest first.
package number

// Put appends the lowest bytes of n, as many as size says, the highest of them first.
func Put(b []byte, n uint64, size int) []byte {
	for i := size - 1; i >= 0; i-- {
		b = append(b, byte(n>>(8*i)))
	}
	return b
}

// Take reads a number whose highest byte stands first.
func Take(s string) uint64 {
	var n uint64
	for i := range len(s) {
		n = n<<8 | uint64(s[i])
	}
	return n
}
