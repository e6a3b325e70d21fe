// Package journal: records, one behind the other, in a file on a disk that may lose its tail.
package journal

import (
	"dealer/api"
	"dealer/disk"
)

// A file that is written may be left with any beginning of its bytes. So the file that is read is never written, but
// only appended to; what must be written is written into a draft, which takes the file's place when it is safe.
const (
	file  = "store"
	draft = "store.new"
)

// Journal writes records on its disk.
type Journal struct {
	disk.Disk
	// known: that the file has the records that were written, is safe, and has nothing behind them. Of a new dealer it
	// is not there; behind an operation that failed it may have the record of a change that was not done.
	known bool
}

// Add writes a record behind those that were written; these are what all gives, should they be needed. It tells whether
// the record is safe.
func (j *Journal) Add(record string, all func() []string) bool {
	if !j.known {
		return j.Replace(append(all(), record))
	}
	j.known = j.Do(
		api.Op{Kind: api.Append, Name: file, Bytes: frame(record)},
		api.Op{Kind: api.Sync, Name: file},
	)
	return j.known
}

// Replace writes records instead of all that were written, and tells whether they are safe.
func (j *Journal) Replace(records []string) bool {
	var bytes []byte
	for _, record := range records {
		bytes = append(bytes, frame(record)...)
	}
	j.known = j.Do(
		api.Op{Kind: api.Write, Name: draft, Bytes: string(bytes)},
		api.Op{Kind: api.Sync, Name: draft},
		api.Op{Kind: api.Rename, Name: draft, To: file},
		api.Op{Kind: api.SyncDir},
	)
	return j.known
}

// Read gives the records that the files of a disk hold, up to the first that is not whole.
func Read(files []api.File) []string {
	var rest string
	for _, f := range files {
		if f.Name == file {
			rest = f.Bytes
		}
	}
	var records []string
	for {
		record, size := unframe(rest)
		if size == 0 {
			return records
		}
		records = append(records, record)
		rest = rest[size:]
	}
}
