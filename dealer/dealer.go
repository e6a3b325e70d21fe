// Package dealer: triples for two parties, given out once: see DOC.md.
package dealer

import (
	"dealer/api"
	"dealer/store"
	"dealer/wire"
)

// Dealer keeps triples and leases them.
type Dealer struct {
	store store.Store
}

// Write writes a request as bytes (P3).
func Write(r api.Request) (string, api.Errno) {
	own, e := wire.Check(r)
	if e != api.OK {
		return "", e
	}
	return wire.Write(own), api.OK
}

// Read reads a request (P3).
func Read(s string) (api.Request, api.Errno) {
	own, e := wire.Read(s)
	if e != api.OK {
		return api.Request{}, e
	}
	return own.Plain(), api.OK
}

// Print writes a reply as bytes (P4).
func Print(r api.Reply) string { return wire.Print(r) }

// Open makes a dealer with an empty disk (P5).
func Open() *Dealer { return &Dealer{} }

// Restart makes a dealer out of what a disk holds (P10).
func Restart(files []api.File) *Dealer { return &Dealer{store: store.Restart(files)} }

// Refill makes triples out of draws (P5).
func (d *Dealer) Refill(c api.Class, draws []uint64) api.Errno { return d.store.Refill(c, draws) }

// Ask answers a request (P6).
func (d *Dealer) Ask(r api.Request) api.Reply { return d.answer(wire.Check(r)) }

// Serve answers a request that is bytes (P7).
func (d *Dealer) Serve(s string) string { return wire.Print(d.answer(wire.Read(s))) }

// Compact forgets shares that nobody may have any more (P8).
func (d *Dealer) Compact() api.Errno { return d.store.Compact() }

// Classes lists the classes (P8).
func (d *Dealer) Classes() []api.Stock { return d.store.Classes() }

// Leases lists the leases (P8).
func (d *Dealer) Leases() []api.Lease { return d.store.Leases() }

// FailAt lets a disk operation fail (P9).
func (d *Dealer) FailAt(n int) { d.store.FailAt(n) }

// Disk lists the operations that were done (P9).
func (d *Dealer) Disk() []api.Op { return d.store.Disk() }

// answer answers a request that was read, or an error of reading it.
func (d *Dealer) answer(r wire.Request, e api.Errno) api.Reply {
	if e != api.OK {
		return api.Reply{Code: e}
	}
	return d.store.Answer(r)
}
