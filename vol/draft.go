package vol

import (
	"iter"
	"maps"
	"slices"

	"binnacle/api"
	"binnacle/log"
	"binnacle/word"
)

const (
	mapSector    = 0
	firstInodes  = 1
	inodeSize    = 16
	perSector    = api.SectorSize / inodeSize
	inodeSectors = api.MaxInodes / perSector
	numberBytes  = 2
	indirects    = api.SectorSize / numberBytes // numbers of an indirect sector
	maxSectors   = api.Direct + indirects       // of a file
	maxLinks     = 255
)

// block are a sector's bytes.
type block [api.SectorSize]byte

// inode: places are the home sectors that stand in it, the indirect one last.
type inode struct {
	kind, links, size int
	places            [api.Direct + 1]int
}

// file is an inode with all of its sectors.
type file struct {
	inode
	all [maxSectors]int
}

// number is the one that stands at a place of bytes.
func number(row []byte, at int) int {
	return int(word.Of(string(row[at : at+numberBytes])))
}

// putNumber lets it stand there.
func putNumber(row []byte, at, n int) {
	copy(row[at:], word.Bytes(uint64(n), numberBytes))
}

func toInode(row []byte) inode {
	x := inode{kind: int(row[0]), links: int(row[1]), size: number(row, 2)}
	for k := range x.places {
		x.places[k] = number(row, 4+numberBytes*k)
	}
	return x
}

func fromInode(x inode, row []byte) {
	row[0], row[1] = byte(x.kind), byte(x.links)
	putNumber(row, 2, x.size)
	for k, i := range x.places {
		putNumber(row, 4+numberBytes*k, i)
	}
}

// count is how many sectors a size asks for, the indirect one left out.
func count(size int) int {
	return (size + api.SectorSize - 1) / api.SectorSize
}

// sectors are those of a file that have bytes from off to end: their places in the file, and which they are.
func (f file) sectors(off, end int) iter.Seq2[int, int] {
	return func(yield func(int, int) bool) {
		for place := off / api.SectorSize; place < count(end); place++ {
			if !yield(place, f.all[place]) {
				return
			}
		}
	}
}

// draft is what a call reads, and what it is about to stage: all of it is staged at its end, or nothing.
type draft struct {
	log  *log.Log
	rows map[int]block
	e    api.Errno // the first error of reading
}

func newDraft(l *log.Log) *draft {
	return &draft{log: l, rows: map[int]block{}}
}

// get is a home sector, with what is about to become of it.
func (d *draft) get(i int) block {
	if row, ok := d.rows[i]; ok {
		return row
	}
	s, e := d.log.Get(i)
	if e != api.OK && d.e == api.OK {
		d.e = e
	}
	var row block
	copy(row[:], s)
	return row
}

func (d *draft) put(i int, row block) {
	d.rows[i] = row
}

// stage stages what was put, as far as it differs from what is there.
func (d *draft) stage() api.Errno {
	rows := d.rows
	d.rows = nil
	maps.DeleteFunc(rows, func(i int, row block) bool { return d.get(i) == row })
	if d.e != api.OK {
		return d.e
	}
	for _, i := range slices.Sorted(maps.Keys(rows)) {
		row := rows[i]
		if e := d.log.Set(i, string(row[:])); e != api.OK {
			return e
		}
	}
	return api.OK
}

// where is the home sector of an inode, and its place there.
func where(n int) (int, int) {
	return firstInodes + n/perSector, n % perSector * inodeSize
}

func (d *draft) inode(n int) inode {
	i, at := where(n)
	row := d.get(i)
	return toInode(row[at : at+inodeSize])
}

func (d *draft) putInode(n int, x inode) {
	i, at := where(n)
	row := d.get(i)
	fromInode(x, row[at:at+inodeSize])
	d.put(i, row)
}

// file is an inode's.
func (d *draft) file(x inode) file {
	f := file{inode: x}
	copy(f.all[:api.Direct], x.places[:])
	if i := x.places[api.Direct]; i != 0 {
		row := d.get(i)
		for k := range indirects {
			f.all[api.Direct+k] = number(row[:], numberBytes*k)
		}
	}
	return f
}

// putFile puts a file's inode and its indirect sector.
func (d *draft) putFile(n int, f file) {
	copy(f.places[:api.Direct], f.all[:])
	if i := f.places[api.Direct]; i != 0 {
		var row block
		for k := range indirects {
			putNumber(row[:], numberBytes*k, f.all[api.Direct+k])
		}
		d.put(i, row)
	}
	d.putInode(n, f.inode)
}

// grow gives a file the sectors that a greater size asks for.
func (d *draft) grow(f *file, size int) api.Errno {
	used := d.used()
	if d.e != api.OK {
		return d.e
	}
	ok := true
	one := func(i *int) {
		if *i == 0 && ok {
			*i, ok = used.take(d.log.Home())
		}
	}
	for place := range count(size) {
		one(&f.all[place])
	}
	if count(size) > api.Direct {
		one(&f.places[api.Direct])
	}
	if !ok {
		return api.ErrFull
	}
	f.size = size
	d.put(mapSector, block(used))
	return api.OK
}

// shrink takes from a file the sectors that a lesser size doesn't ask for.
func (d *draft) shrink(f *file, size int) {
	used := d.used()
	for place := count(size); place < count(f.size); place++ {
		used.set(f.all[place], false)
		f.all[place] = 0
	}
	if i := f.places[api.Direct]; i != 0 && count(size) <= api.Direct {
		used.set(i, false)
		f.places[api.Direct] = 0
	}
	f.size = size
	d.put(mapSector, block(used))
}
