package journal

import "dealer/number"

// The bytes that stand ahead of a record: how long it is, and its sum.
const (
	lengthSize = 4
	sumSize    = 8
	headSize   = lengthSize + sumSize
)

func frame(record string) string {
	b := number.Put(nil, uint64(len(record)), lengthSize)
	b = number.Put(b, sum(record), sumSize)
	return string(append(b, record...))
}

// unframe gives the record at the head of s, and how many bytes it takes there: 0, if there is none that is whole.
func unframe(s string) (record string, size int) {
	if len(s) < headSize {
		return "", 0
	}
	head, rest := s[:headSize], s[headSize:]
	length := number.Take(head[:lengthSize])
	if length > uint64(len(rest)) {
		return "", 0
	}
	record = rest[:length]
	if number.Take(head[lengthSize:]) != sum(record) {
		return "", 0
	}
	return record, headSize + len(record)
}

// sum is FNV-1a: two records that differ in one byte alone never have the same.
func sum(record string) uint64 {
	h := uint64(14695981039346656037)
	for i := range len(record) {
		h ^= uint64(record[i])
		h *= 1099511628211
	}
	return h
}
