package gen

import (
	"binnacle/api"
	"binnacle/mean"
)

const worthSaving = 3 // so often a variable has to be named to be kept in a register that has to be given back

// function is the one whose code is being made.
type function struct {
	top   bool  // it is main, and nobody calls it: it ends by ending the process
	calls bool  // it calls something
	regs  []int // registers of its variables
	saved []int // those of them that it has to give back as they were
	cells int   // how many variables stand in its frame; behind them, where it goes back to, the saved registers, places put aside
	size  int   // of its frame
	aside int   // where in the frame the latter are
	back  *label
	next  *label // of the loop around: its condition,
	out   *label // and what is behind it
}

// all makes the whole code.
func (c *coder) all() {
	start := nowhere
	called := map[int]int{} // how often functions are
	for i, n := range c.tree {
		if n.Kind == api.ECall {
			called[c.symbol(i).Node]++
		}
		if n.Kind == api.DFun && n.Text == "main" {
			start = i
		}
	}
	c.begin()
	if called[start] > 0 {
		c.jump(api.Inst{Op: api.Jal, Rd: back}, c.funs[start])
		c.kernel(api.SysExit)
	} else {
		c.make(start, true)
	}
	for i, n := range c.tree {
		if n.Kind == api.DFun && called[i] > 0 {
			c.make(i, false)
		}
	}
	c.routines()
}

// begin sets what stays as it is: the global register, the number of the program's arguments, their words.
func (c *coder) begin() {
	c.far(globalOff, global, imm(api.Addi, global, global, 0))
	asked := map[string]int{}
	for i, n := range c.tree {
		if n.Kind == api.ECall {
			asked[c.symbol(i).Name]++
		}
	}
	if asked["args"] > 0 {
		c.emit(store(api.Sd, firstArg, global, c.count-globalOff))
	}
	if asked["arg"] > 0 {
		c.move(argWords, firstArg+1)
	}
}

// make makes a function's code.
func (c *coder) make(fun int, top bool) {
	n := c.tree[fun]
	block := n.Kids[n.M]
	f := &function{top: top, calls: c.facts[block].calls, back: &label{}}
	c.fun = f
	locals := c.house(fun)
	f.aside = cell * (f.cells + 1 + len(f.saved))
	if f.cells > 0 || len(f.saved) > 0 || f.calls && !top || c.facts[block].deep {
		f.size = mean.Frame(locals)
	}
	c.here(c.funs[fun])
	c.enter(fun)
	if c.body(block) {
		c.emit(imm(api.Addi, firstArg, zero, 0))
	}
	c.here(f.back)
	c.leave()
}

// house gives a function's variables their homes: how many these are.
func (c *coder) house(fun int) int {
	f, count, params := c.fun, 0, c.tree[fun].M
	free := argRegs // registers of arguments, where nothing is called
	if f.calls {
		free = 0
	}
	keeps := 0
	for i, s := range c.info.Syms {
		if s.Kind != api.SymLocal || c.owner(s.Node) != fun {
			continue
		}
		count++
		uses := c.facts[s.Node].uses
		r, ok := kept(keeps)
		switch {
		case s.N < min(params, free) || s.N < free && uses > 0:
			c.homes[i] = home{inReg, firstArg + s.N}
			f.regs = append(f.regs, firstArg+s.N)
		case uses == 0:
			c.homes[i] = home{kind: unused}
		case ok && (f.top || uses >= worthSaving):
			keeps++
			c.homes[i] = home{inReg, r}
			f.regs = append(f.regs, r)
			if !f.top {
				f.saved = append(f.saved, r)
			}
		default:
			c.homes[i] = home{inFrame, cell * f.cells}
			f.cells++
		}
	}
	return count
}

// owner is the function of a variable.
func (c *coder) owner(node int) int {
	for c.tree[node].Kind != api.DFun {
		node++
	}
	return node
}

// enter emits what a function begins with.
func (c *coder) enter(fun int) {
	f := c.fun
	if f.size > 0 {
		c.emit(imm(api.Addi, stack, stack, int64(-f.size)))
	}
	c.savings(func(r, at int) { c.emit(store(api.Sd, r, stack, at)) })
	for i, s := range c.info.Syms {
		if s.Kind != api.SymLocal || c.owner(s.Node) != fun {
			continue
		}
		switch param := s.N < c.tree[fun].M; {
		case param && f.calls:
			c.keepValue(i, firstArg+s.N)
		case !param && c.facts[s.Node].guarded: // it may be named without having been done
			c.keepValue(i, zero)
		}
	}
}

// savings does something with each register that a function gives back as it was, and where in the frame it is.
func (c *coder) savings(do func(r, at int)) {
	f := c.fun
	at := cell * f.cells
	if f.calls && !f.top {
		do(back, at)
	}
	for _, r := range f.saved {
		at += cell
		do(r, at)
	}
}

// keepValue gives a variable of a function a register's value.
func (c *coder) keepValue(symbol, from int) {
	switch h := c.homes[symbol]; h.kind {
	case inReg:
		c.move(h.at, from)
	case inFrame:
		c.emit(store(api.Sd, from, stack, h.at))
	}
}

// body does a function's block: whether it goes on behind it. A return at its end needs no jump.
func (c *coder) body(block int) bool {
	kids := c.tree[block].Kids
	for _, kid := range kids[:max(len(kids)-1, 0)] {
		if !c.do(kid) {
			return false
		}
	}
	if len(kids) == 0 {
		return true
	}
	last := kids[len(kids)-1]
	if c.tree[last].Kind == api.SRet {
		c.into(c.tree[last].Kids[0], 0, firstArg)
		return false
	}
	return c.do(last)
}

// leave emits what a function ends with.
func (c *coder) leave() {
	f := c.fun
	if f.top {
		c.kernel(api.SysExit)
		return
	}
	c.savings(func(r, at int) { c.emit(load(api.Ld, r, stack, at)) })
	if f.size > 0 {
		c.emit(imm(api.Addi, stack, stack, int64(f.size)))
	}
	c.emit(imm(api.Jalr, zero, back, 0))
}
