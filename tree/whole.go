package tree

import (
	"binnacle/api"
)

// survey is what was seen of a tree.
type survey struct {
	stats   [api.MaxInodes]api.Stat
	entries [api.MaxInodes]int // how many are of each inode, the first ones left out
	stands  [api.MaxInodes]int // where the last one of these stands
	first   [api.MaxInodes]int // of what inode a directory's first entry is
}

// look tells whether the tree is whole, and which inodes are orphans.
func (t *Tree) look() ([]int, api.Errno) {
	var s survey
	for n := range s.stats {
		x, e := t.vol.Stat(n)
		if e != api.OK && e != api.ErrNone {
			return nil, e
		}
		s.stats[n] = x
	}
	for n, x := range s.stats {
		if x.Kind != api.KindDir {
			continue
		}
		rows, e := t.vol.Read(n, 0, api.MaxFile)
		if e != api.OK {
			return nil, e
		}
		if !s.takes(n, rows) {
			return nil, api.ErrForm
		}
	}
	if !s.whole() {
		return nil, api.ErrForm
	}
	var orphans []int
	for n, x := range s.stats {
		if x.Kind == api.KindFile && x.Links == 0 {
			orphans = append(orphans, n)
		}
	}
	return orphans, api.OK
}

// takes notes a directory's entries; false, if one of them may not be.
func (s *survey) takes(dir int, rows string) bool {
	if len(rows) == 0 || len(rows)%entrySize != 0 {
		return false
	}
	met := map[string]int{}
	for off, x := range entries(rows) {
		if x.bytes() != rows[off:off+entrySize] {
			return false
		}
		if off == 0 {
			if x.name != up || !s.used(x.inode) {
				return false
			}
			s.first[dir] = x.inode
			continue
		}
		if x.free() {
			continue
		}
		met[x.name]++
		if met[x.name] > 1 || !isName(x.name) || !s.used(x.inode) || x.inode == root {
			return false
		}
		s.entries[x.inode]++
		s.stands[x.inode] = dir
	}
	return true
}

// used tells whether there is such an inode, and it isn't free.
func (s *survey) used(n int) bool {
	return n >= 0 && n < len(s.stats) && s.stats[n].Kind != api.KindFree
}

// whole tells whether links and parents are as they should.
func (s *survey) whole() bool {
	if s.stats[root].Kind != api.KindDir || s.stats[root].Links != 1 || s.first[root] != root {
		return false
	}
	for n, x := range s.stats {
		if n == root || x.Kind == api.KindFree {
			continue
		}
		if s.entries[n] != x.Links {
			return false
		}
		if x.Kind == api.KindDir && (x.Links != 1 || s.first[n] != s.stands[n] || !s.hangs(n)) {
			return false
		}
	}
	return true
}

// hangs tells whether who goes up from a directory comes to the root.
func (s *survey) hangs(n int) bool {
	for range s.stats {
		n = s.first[n]
	}
	return n == root
}
