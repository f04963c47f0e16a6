package tree

import (
	"iter"
	"strings"

	"binnacle/api"
	"binnacle/word"
)

const (
	entrySize   = 16
	numberBytes = 2
	up          = ".." // the name of a directory's first entry
)

// entry is one of a directory: an inode and its name; without a name it is free.
type entry struct {
	inode int
	name  string
}

func (x entry) free() bool {
	return x.name == ""
}

// bytes are those that stand in the directory.
func (x entry) bytes() string {
	number := ""
	if !x.free() {
		number = word.Bytes(uint64(x.inode+1), numberBytes)
	}
	s := number + x.name
	return s + strings.Repeat("\x00", entrySize-len(s))
}

// entries are those of a directory with such bytes, and their places.
func entries(rows string) iter.Seq2[int, entry] {
	return func(yield func(int, entry) bool) {
		for off := 0; off+entrySize <= len(rows); off += entrySize {
			row := rows[off : off+entrySize]
			x := entry{int(word.Of(row[:numberBytes])) - 1, strings.TrimRight(row[numberBytes:], "\x00")}
			if !yield(off, x) {
				return
			}
		}
	}
}

// isName tells whether an entry but the first may have a name.
func isName(s string) bool {
	return s != "" && len(s) <= api.MaxName && s != "." && s != up && !strings.ContainsAny(s, "/\x00")
}

// eachPart does something with each part of a path, until one has an error.
func eachPart(path string, do func(part string) api.Errno) api.Errno {
	for part := range strings.SplitSeq(path, "/") {
		if part == "" {
			continue
		}
		if e := do(part); e != api.OK {
			return e
		}
	}
	return api.OK
}

// start is where a path begins.
func (t *Tree) start(from int, path string) (int, api.Errno) {
	if path == "" || len(path) > api.MaxPath || strings.Contains(path, "\x00") {
		return 0, api.ErrName
	}
	if path[0] == '/' {
		return root, api.OK
	}
	e := t.directory(from)
	if e != api.OK && e != api.ErrDead {
		e = api.ErrArg
	}
	return from, e
}

// directory is the error of an inode that is none.
func (t *Tree) directory(n int) api.Errno {
	s, e := t.vol.Stat(n)
	if e == api.OK && s.Kind != api.KindDir {
		return api.ErrNotDir
	}
	return e
}

// step is what a part leads to from an inode.
func (t *Tree) step(at int, part string) (int, api.Errno) {
	if e := t.directory(at); e != api.OK {
		return 0, e
	}
	if part == "." {
		return at, api.OK
	}
	if part != up && !isName(part) {
		return 0, api.ErrName
	}
	n, _, e := t.lookup(at, part)
	return n, e
}

// lookup is the inode of a directory's entry, and the entry's place.
func (t *Tree) lookup(dir int, name string) (int, int, api.Errno) {
	rows, e := t.vol.Read(dir, 0, api.MaxFile)
	if e != api.OK {
		return 0, 0, e
	}
	for off, x := range entries(rows) {
		if x.name == name {
			return x.inode, off, api.OK
		}
	}
	return 0, 0, api.ErrNone
}

// names are those of a directory's entries but the first.
func (t *Tree) names(dir int) ([]string, api.Errno) {
	rows, e := t.vol.Read(dir, 0, api.MaxFile)
	if e != api.OK {
		return nil, e
	}
	var out []string
	for off, x := range entries(rows) {
		if off > 0 && !x.free() {
			out = append(out, x.name)
		}
	}
	return out, api.OK
}

// find is what a path leads to.
func (t *Tree) find(from int, path string) (int, api.Errno) {
	at, e := t.start(from, path)
	if e != api.OK {
		return 0, e
	}
	e = eachPart(path, func(part string) (e api.Errno) {
		at, e = t.step(at, part)
		return e
	})
	return at, e
}

// place is the directory to which all parts but the last one lead, and that one, which is a name.
func (t *Tree) place(from int, path string) (int, string, api.Errno) {
	at, e := t.start(from, path)
	if e != api.OK {
		return 0, "", e
	}
	last := ""
	e = eachPart(path, func(part string) (e api.Errno) {
		if last != "" {
			at, e = t.step(at, last)
		}
		last = part
		return e
	})
	if e == api.OK {
		e = t.directory(at)
	}
	if e == api.OK && !isName(last) {
		e = api.ErrName
	}
	return at, last, e
}

// newPlace is a place at which there is nothing yet.
func (t *Tree) newPlace(from int, path string) (int, string, api.Errno) {
	dir, name, e := t.place(from, path)
	if e != api.OK {
		return 0, "", e
	}
	switch _, _, e := t.lookup(dir, name); e {
	case api.ErrNone:
		return dir, name, api.OK
	case api.OK:
		return 0, "", api.ErrThere
	default:
		return 0, "", e
	}
}
