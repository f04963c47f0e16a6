package kern

import (
	"binnacle/api"
	"binnacle/prog"
	"binnacle/space"
	"binnacle/table"
	"binnacle/word"
)

// The registers of a call: its number; its arguments, the first one's for the answer too.
const (
	numberReg = 17
	firstReg  = 10
	stackReg  = 2
	ecallSize = 4
)

// What becomes of a call.
const (
	answered = iota
	blocks   // it is tried again at the process's next turn
	over     // there is nobody to answer, or it was answered already
)

// answer is what a call comes to.
type answer struct {
	how   int
	value uint64
}

func give(v int) answer {
	return answer{answered, uint64(v)}
}

func refuse(e api.Errno) answer {
	return give(-int(e))
}

// call does one for a process.
type call func(k *Kernel, pid int) answer

// calls are all, by their numbers.
func calls() map[uint64]call {
	return map[uint64]call{
		api.SysExit:   (*Kernel).sysExit,
		api.SysFork:   (*Kernel).sysFork,
		api.SysWait:   (*Kernel).sysWait,
		api.SysPipe:   (*Kernel).sysPipe,
		api.SysRead:   (*Kernel).sysRead,
		api.SysWrite:  (*Kernel).sysWrite,
		api.SysOpen:   (*Kernel).sysOpen,
		api.SysClose:  (*Kernel).sysClose,
		api.SysDup:    (*Kernel).sysDup,
		api.SysExec:   (*Kernel).sysExec,
		api.SysKill:   (*Kernel).sysKill,
		api.SysPid:    (*Kernel).sysPid,
		api.SysGrow:   (*Kernel).sysGrow,
		api.SysTime:   (*Kernel).sysTime,
		api.SysSleep:  (*Kernel).sysSleep,
		api.SysChdir:  (*Kernel).sysChdir,
		api.SysMkdir:  (*Kernel).sysMkdir,
		api.SysLink:   (*Kernel).sysLink,
		api.SysUnlink: (*Kernel).sysUnlink,
		api.SysStat:   (*Kernel).sysStat,
	}
}

// call does what a process asks for.
func (k *Kernel) call(pid int) {
	p := &k.procs[pid]
	a := refuse(api.ErrArg)
	if do, ok := k.calls[p.hart.X[numberReg]]; ok {
		a = do(k, pid)
	}
	switch a.how {
	case answered:
		p.hart = behind(p.hart, a.value)
	case blocks:
		k.leave(pid)
	}
}

// behind is a hart behind a call that was answered so.
func behind(h api.Hart, value uint64) api.Hart {
	h.X[firstReg] = value
	h.PC += ecallSize
	h.Held, h.At = false, 0
	return h
}

// arg is a call's i-th argument.
func (k *Kernel) arg(pid, i int) uint64 {
	return k.procs[pid].hart.X[firstReg+i]
}

// number is one that is an int64.
func (k *Kernel) number(pid, i int) int {
	return int(k.arg(pid, i))
}

// path is an argument that is the address of one.
func (k *Kernel) path(pid, i int) (string, api.Errno) {
	return space.Text(k.pool, k.procs[pid].root, k.arg(pid, i), api.MaxPath)
}

// put lets words stand in a process's space.
func (k *Kernel) put(pid int, at uint64, words ...int) api.Errno {
	s := ""
	for _, v := range words {
		s += word.Bytes(uint64(v), entrySize)
	}
	return space.Out(k.pool, k.procs[pid].root, at, s)
}

func (k *Kernel) sysExit(pid int) answer {
	k.end(pid, k.number(pid, 0))
	return answer{how: over}
}

func (k *Kernel) sysFork(pid int) answer {
	t, child, e := table.Fork(k.table, pid)
	if e != api.OK {
		return refuse(e)
	}
	p := k.procs[pid]
	if p.root, e = space.Copy(k.pool, p.root); e != api.OK {
		return refuse(e)
	}
	if e := k.tree.Hold(p.dir); e != api.OK {
		space.Free(k.pool, p.root)
		return refuse(e)
	}
	for _, f := range p.fds {
		if f != none {
			k.opens[f].refs++
		}
	}
	p.hart = behind(p.hart, 0)
	k.table, k.procs[child] = t, p
	return give(child)
}

func (k *Kernel) sysWait(pid int) answer {
	t, child, status, e := table.Wait(k.table, pid)
	if e == api.ErrBusy {
		return answer{how: blocks}
	}
	if e != api.OK {
		return refuse(e)
	}
	if at := k.arg(pid, 0); at != 0 {
		if e := k.put(pid, at, status); e != api.OK {
			return refuse(e)
		}
	}
	k.table = t
	return give(child)
}

func (k *Kernel) sysKill(pid int) answer {
	t, e := table.Kill(k.table, k.number(pid, 0))
	if e != api.OK {
		return refuse(e)
	}
	k.table = t
	return give(0)
}

func (k *Kernel) sysPid(pid int) answer {
	return give(pid)
}

func (k *Kernel) sysTime(int) answer {
	return answer{answered, k.ticks}
}

func (k *Kernel) sysSleep(pid int) answer {
	if until := k.number(pid, 0); until > 0 && k.ticks < uint64(until) {
		return answer{how: blocks}
	}
	return give(0)
}

func (k *Kernel) sysGrow(pid int) answer {
	const (
		mostMore = 2048
		mostEnd  = (api.TopPage - api.StackPages - 1) * api.PageSize
		bits     = api.PteV | api.PteU | api.PteR | api.PteW
	)
	p, more := &k.procs[pid], k.number(pid, 0)
	if more < 0 || more > mostMore {
		return refuse(api.ErrArg)
	}
	old := int(p.end)
	if old+more > mostEnd {
		return refuse(api.ErrMany)
	}
	missing := k.unmapped(p.root, old/api.PageSize, old+more)
	if len(missing) > k.pool.Left() { // their tables are there: the program's and the stack's
		return refuse(api.ErrFull)
	}
	for _, page := range missing {
		if e := space.Map(k.pool, p.root, page, bits); e != api.OK {
			return refuse(e)
		}
	}
	p.end += uint64(more)
	return give(old)
}

// unmapped are the pages from one on that have an address below end, and aren't mapped.
func (k *Kernel) unmapped(root, from, end int) []int {
	mapped, _ := space.Pages(k.pool, root)
	has := map[int]struct{}{}
	for _, page := range mapped {
		has[page] = struct{}{}
	}
	var out []int
	for page := from; page*api.PageSize < end; page++ {
		if _, ok := has[page]; !ok {
			out = append(out, page)
		}
	}
	return out
}

func (k *Kernel) sysExec(pid int) answer {
	p := &k.procs[pid]
	path, e := k.path(pid, 0)
	if e != api.OK {
		return refuse(e)
	}
	x, e := k.program(p.dir, path)
	if e != api.OK {
		return refuse(e)
	}
	args, e := k.arguments(pid, k.arg(pid, 1))
	if e != api.OK {
		return refuse(e)
	}
	root, h, end, e := prog.Load(k.pool, x)
	if e != api.OK {
		return refuse(e)
	}
	space.Free(k.pool, p.root)
	p.root, p.hart, p.end = root, h, end
	k.stack(pid, args)
	return answer{how: over}
}

// arguments are those of a program whose addresses stand from at on.
func (k *Kernel) arguments(pid int, at uint64) ([]string, api.Errno) {
	root := k.procs[pid].root
	var out []string
	for all := 0; ; at += entrySize {
		row, e := space.In(k.pool, root, at, entrySize)
		if e != api.OK {
			return nil, e
		}
		v := word.Of(row)
		if v == 0 {
			return out, api.OK
		}
		s, e := space.Text(k.pool, root, v, api.MaxArgLen)
		if e != api.OK {
			return nil, e
		}
		out = append(out, s)
		if all += len(s) + 1; len(out) > api.MaxArgs || all > api.MaxArgLen {
			return nil, api.ErrMany
		}
	}
}

// stack puts the arguments on a new program's stack.
func (k *Kernel) stack(pid int, args []string) {
	p := &k.procs[pid]
	at := uint64(api.TopPage * api.PageSize)
	var words []int
	for _, s := range args {
		at = (at - uint64(len(s)) - 1) &^ (entrySize - 1)
		space.Out(k.pool, p.root, at, s+"\x00")
		words = append(words, int(at))
	}
	words = append(words, 0)
	at -= uint64(len(words) * entrySize)
	k.put(pid, at, words...)
	p.hart.X[firstReg], p.hart.X[firstReg+1], p.hart.X[stackReg] = uint64(len(args)), at, at
}
