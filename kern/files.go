package kern

import (
	"strings"

	"binnacle/api"
	"binnacle/pipe"
	"binnacle/space"
)

// The kinds of open files.
const (
	unused = iota
	toConsole
	toInode
	toRead  // the reading end of a pipe
	toWrite // the writing end of one
)

// open is an open file; without anything it is free.
type open struct {
	kind, refs   int
	inode, place int
	writable     bool
	pipe         int
}

// noFiles are the descriptors of who has none.
func noFiles() [api.MaxFiles]int {
	var fds [api.MaxFiles]int
	for fd := range fds {
		fds[fd] = none
	}
	return fds
}

// freeOpen is the least open file that is free, or none.
func (k *Kernel) freeOpen() int {
	for f, o := range k.opens {
		if o == (open{}) {
			return f
		}
	}
	return none
}

// freePipe is the least pipe that is free, or none.
func (k *Kernel) freePipe() int {
	for n, p := range k.pipes {
		if p.Readers == 0 && p.Writers == 0 {
			return n
		}
	}
	return none
}

// freeFd is the least descriptor of a process that is free, or none.
func (k *Kernel) freeFd(pid int) int {
	for fd, f := range k.procs[pid].fds {
		if f == none {
			return fd
		}
	}
	return none
}

// attach gives a process a descriptor and, with it, an open file; both none, if one of them isn't free.
func (k *Kernel) attach(pid int, o open) (int, int) {
	fd, f := k.freeFd(pid), k.freeOpen()
	if fd == none || f == none {
		return none, none
	}
	o.refs = 1
	k.opens[f], k.procs[pid].fds[fd] = o, f
	return fd, f
}

// detach takes both away, as if they had not been.
func (k *Kernel) detach(pid, fd, f int) {
	if fd != none {
		k.opens[f], k.procs[pid].fds[fd] = open{}, none
	}
}

// less takes a reference from an open file.
func (k *Kernel) less(f int) {
	o := &k.opens[f]
	o.refs--
	if o.refs > 0 {
		return
	}
	switch o.kind {
	case toInode:
		k.tree.Drop(o.inode) // without power nothing is dropped: the open file is free all the same
	case toRead:
		k.ends(o.pipe, -1, 0)
	case toWrite:
		k.ends(o.pipe, 0, -1)
	}
	*o = open{}
}

// ends gives a pipe so many readers and writers more; without any it is empty again.
func (k *Kernel) ends(n, readers, writers int) {
	p, _ := pipe.Open(k.pipes[n], readers, writers)
	if p.Readers == 0 && p.Writers == 0 {
		p = api.Pipe{}
	}
	k.pipes[n] = p
}

// file is the open file of a call's first argument; nil, if that is no descriptor.
func (k *Kernel) file(pid int) *open {
	fd := k.number(pid, 0)
	if fd < 0 || fd >= api.MaxFiles || k.procs[pid].fds[fd] == none {
		return nil
	}
	return &k.opens[k.procs[pid].fds[fd]]
}

func (k *Kernel) isDir(n int) (bool, api.Errno) {
	s, e := k.tree.Stat(n)
	return s.Kind == api.KindDir, e
}

func (k *Kernel) sysPipe(pid int) answer {
	n := k.freePipe()
	if n == none {
		return refuse(api.ErrMany)
	}
	r, fr := k.attach(pid, open{kind: toRead, pipe: n})
	w, fw := k.attach(pid, open{kind: toWrite, pipe: n})
	e := api.ErrMany
	if r != none && w != none {
		e = k.put(pid, k.arg(pid, 0), r, w)
	}
	if e != api.OK {
		k.detach(pid, r, fr)
		k.detach(pid, w, fw)
		return refuse(e)
	}
	k.ends(n, 1, 1)
	return give(0)
}

func (k *Kernel) sysRead(pid int) answer {
	o := k.file(pid)
	if o == nil || o.kind == toWrite {
		return refuse(api.ErrDesc)
	}
	n := k.number(pid, 2)
	if n < 0 || n > api.MaxMove {
		return refuse(api.ErrArg)
	}
	s, take, e := k.bytes(o, n)
	if e == api.ErrBusy {
		return answer{how: blocks}
	}
	if e != api.OK {
		return refuse(e)
	}
	if e := space.Out(k.pool, k.procs[pid].root, k.arg(pid, 1), s); e != api.OK {
		return refuse(e)
	}
	take()
	return give(len(s))
}

// bytes are those that a read of n tells, and what takes them from where they are; ErrBusy, if it has to wait for them.
func (k *Kernel) bytes(o *open, n int) (string, func(), api.Errno) {
	switch o.kind {
	case toInode:
		s, e := k.tree.Read(o.inode, o.place, n)
		return s, func() { o.place += len(s) }, e
	case toRead:
		p, s, e := pipe.Read(k.pipes[o.pipe], n)
		return s, func() { k.pipes[o.pipe] = p }, e
	}
	if n > 0 && k.input == "" {
		return "", nil, api.ErrBusy
	}
	line := len(k.input)
	if i := strings.IndexByte(k.input, '\n'); i >= 0 {
		line = i + 1
	}
	n = min(n, line)
	return k.input[:n], func() { k.input = k.input[n:] }, api.OK
}

func (k *Kernel) sysWrite(pid int) answer {
	o := k.file(pid)
	if o == nil || o.kind == toRead || o.kind == toInode && !o.writable {
		return refuse(api.ErrDesc)
	}
	n := k.number(pid, 2)
	if n < 0 || n > api.MaxMove {
		return refuse(api.ErrArg)
	}
	s, e := space.In(k.pool, k.procs[pid].root, k.arg(pid, 1), n)
	if e != api.OK {
		return refuse(e)
	}
	switch o.kind {
	case toInode:
		if e := k.tree.Write(o.inode, o.place, s); e != api.OK {
			return refuse(e)
		}
		o.place += n
	case toWrite:
		p, many, e := pipe.Write(k.pipes[o.pipe], s)
		if e == api.ErrBusy {
			return answer{how: blocks}
		}
		if e != api.OK {
			return refuse(e)
		}
		k.pipes[o.pipe], n = p, many
	default:
		k.out = append(k.out, s...)
	}
	return give(n)
}

func (k *Kernel) sysOpen(pid int) answer {
	path, e := k.path(pid, 0)
	if e != api.OK {
		return refuse(e)
	}
	if k.freeFd(pid) == none || k.freeOpen() == none {
		return refuse(api.ErrMany)
	}
	n, e := k.opened(k.procs[pid].dir, path, k.arg(pid, 1))
	if e != api.OK {
		return refuse(e)
	}
	fd, _ := k.attach(pid, open{kind: toInode, inode: n, writable: k.arg(pid, 1)&api.OpenWrite != 0})
	return give(fd)
}

// opened is the inode that a path leads to, held, made and cut as the flags say.
func (k *Kernel) opened(dir int, path string, flags uint64) (int, api.Errno) {
	n, e := k.tree.Find(dir, path)
	if e == api.ErrNone && flags&api.OpenMake != 0 {
		n, e = k.tree.Make(dir, path, api.KindFile)
	}
	if e != api.OK {
		return 0, e
	}
	if flags&api.OpenWrite != 0 {
		isDir, e := k.isDir(n)
		if e == api.OK && isDir {
			e = api.ErrIsDir
		}
		if e == api.OK && flags&api.OpenCut != 0 {
			e = k.tree.Cut(n)
		}
		if e != api.OK {
			return 0, e
		}
	}
	return n, k.tree.Hold(n)
}

func (k *Kernel) sysClose(pid int) answer {
	if k.file(pid) == nil {
		return refuse(api.ErrDesc)
	}
	fd := &k.procs[pid].fds[k.number(pid, 0)]
	k.less(*fd)
	*fd = none
	return give(0)
}

func (k *Kernel) sysDup(pid int) answer {
	o := k.file(pid)
	if o == nil {
		return refuse(api.ErrDesc)
	}
	fd := k.freeFd(pid)
	if fd == none {
		return refuse(api.ErrMany)
	}
	fds := &k.procs[pid].fds
	fds[fd] = fds[k.number(pid, 0)]
	o.refs++
	return give(fd)
}

func (k *Kernel) sysChdir(pid int) answer {
	path, e := k.path(pid, 0)
	if e != api.OK {
		return refuse(e)
	}
	p := &k.procs[pid]
	n, e := k.tree.Find(p.dir, path)
	if e != api.OK {
		return refuse(e)
	}
	isDir, e := k.isDir(n)
	if e == api.OK && !isDir {
		e = api.ErrNotDir
	}
	if e == api.OK {
		e = k.tree.Hold(n)
	}
	if e != api.OK {
		return refuse(e)
	}
	k.tree.Drop(p.dir)
	p.dir = n
	return give(0)
}

func (k *Kernel) sysMkdir(pid int) answer {
	path, e := k.path(pid, 0)
	if e == api.OK {
		_, e = k.tree.Make(k.procs[pid].dir, path, api.KindDir)
	}
	return refuse(e) // of OK it is 0
}

func (k *Kernel) sysLink(pid int) answer {
	old, e := k.path(pid, 0)
	if e != api.OK {
		return refuse(e)
	}
	path, e := k.path(pid, 1)
	if e == api.OK {
		e = k.tree.Link(k.procs[pid].dir, old, path)
	}
	return refuse(e)
}

func (k *Kernel) sysUnlink(pid int) answer {
	path, e := k.path(pid, 0)
	if e == api.OK {
		e = k.tree.Unlink(k.procs[pid].dir, path)
	}
	return refuse(e)
}

func (k *Kernel) sysStat(pid int) answer {
	path, e := k.path(pid, 0)
	if e != api.OK {
		return refuse(e)
	}
	n, e := k.tree.Find(k.procs[pid].dir, path)
	if e != api.OK {
		return refuse(e)
	}
	s, e := k.tree.Stat(n)
	if e == api.OK {
		e = k.put(pid, k.arg(pid, 1), s.Kind, s.Links, s.Size)
	}
	return refuse(e)
}
