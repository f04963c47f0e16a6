package vol

import (
	"binnacle/api"
	"binnacle/log"
)

// bits is the map: which home sectors are used.
type bits block

// systemMap is the map of a volume without files.
func systemMap() bits {
	var used bits
	for i := range api.FirstData {
		used.set(i, true)
	}
	return used
}

func (d *draft) used() bits {
	return bits(d.get(mapSector))
}

func (b *bits) has(i int) bool {
	return b[i/8]>>(i%8)&1 == 1
}

// set says of a home sector whether it is used (of one that can't be, which only others can have written to the log: nothing).
func (b *bits) set(i int, used bool) {
	if i >= 8*len(b) {
		return
	}
	b[i/8] &^= 1 << (i % 8)
	if used {
		b[i/8] |= 1 << (i % 8)
	}
}

// take is the least home sector of so many that is free, and used from then on; false, if there is none.
func (b *bits) take(home int) (int, bool) {
	for i := api.FirstData; i < home; i++ {
		if !b.has(i) {
			b.set(i, true)
			return i, true
		}
	}
	return 0, false
}

// free is how many home sectors of so many are.
func (b bits) free(home int) int {
	n := 0
	for i := range home {
		if !b.has(i) {
			n++
		}
	}
	return n
}

// Mount takes the one that there is.
func Mount(l *log.Log) (*Vol, api.Errno) {
	if e := usable(l); e != api.OK {
		return nil, e
	}
	d := newDraft(l)
	whole := d.whole()
	if d.e != api.OK {
		return nil, d.e
	}
	if !whole {
		return nil, api.ErrForm
	}
	return &Vol{l}, api.OK
}

// whole tells whether the volume is.
func (d *draft) whole() bool {
	had := systemMap()
	for n := range api.MaxInodes {
		x := d.inode(n)
		if x != (inode{}) && !d.wholeFile(x, &had) {
			return false
		}
	}
	return d.used() == had
}

// wholeFile tells whether an inode that isn't free has just what it should, of sectors that nobody had; it has them then.
func (d *draft) wholeFile(x inode, had *bits) bool {
	if x.kind != api.KindFile && x.kind != api.KindDir || x.size > api.MaxFile {
		return false
	}
	n := count(x.size)
	has := func(i int, asked bool) bool {
		if !asked {
			return i == 0
		}
		if i < api.FirstData || i >= d.log.Home() || had.has(i) {
			return false
		}
		had.set(i, true)
		return true
	}
	if !has(x.places[api.Direct], n > api.Direct) {
		return false
	}
	f := d.file(x)
	for place, i := range f.all {
		if !has(i, place < n) {
			return false
		}
	}
	return true
}
