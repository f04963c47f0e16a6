package gen

import (
	"binnacle/api"
)

// call does a call; its answer is in the first argument's register.
func (c *coder) call(i, k int) {
	n, s := c.tree[i], c.symbol(i)
	if s.Kind == api.SymFun {
		c.arguments(n.Kids, k, func(arg int) int { return firstArg + arg })
		c.keep(k, func() { c.jump(api.Inst{Op: api.Jal, Rd: back}, c.funs[s.Node]) })
		return
	}
	switch s.Name {
	case "put":
		c.arguments(n.Kids, k, func(int) int { return firstArg })
		c.jump(api.Inst{Op: api.Jal, Rd: back}, c.put)
	case "get":
		c.jump(api.Inst{Op: api.Jal, Rd: back}, c.get)
	case "exit":
		c.arguments(n.Kids, k, func(int) int { return firstArg })
		c.kernel(api.SysExit)
	case "sys":
		c.arguments(n.Kids, k, func(arg int) int {
			if arg == 0 {
				return callReg
			}
			return firstArg + arg - 1
		})
		c.emit(api.Inst{Op: api.Ecall})
	}
}

// kernel calls the kernel.
func (c *coder) kernel(number int64) {
	c.number(callReg, number)
	c.emit(api.Inst{Op: api.Ecall})
}

// keep does something with the first k places put aside.
func (c *coder) keep(k int, do func()) {
	for p := range k {
		c.emit(store(api.Sd, place(p), stack, c.fun.aside+cell*p))
	}
	do()
	for p := range k {
		c.emit(load(api.Ld, place(p), stack, c.fun.aside+cell*p))
	}
}

// arguments reckons these into the registers that where tells. All up to the last one that calls something have to wait in places, as it would change those registers; pure ones wait without.
func (c *coder) arguments(kids []int, k int, where func(arg int) int) {
	last := nowhere
	for arg, kid := range kids {
		if c.facts[kid].calls {
			last = arg
		}
	}
	from := map[int]int{} // of arguments that wait: their places
	for arg := range last {
		if !c.isPure(kids[arg]) {
			from[arg] = place(k)
			c.into(kids[arg], k, place(k))
			k++
		}
	}
	for arg := max(last, 0); arg < len(kids); arg++ {
		c.into(kids[arg], k, where(arg))
	}
	for arg := range last {
		if r, ok := from[arg]; ok {
			c.move(where(arg), r)
		} else {
			c.into(kids[arg], k, where(arg))
		}
	}
}

// routines are what put and get jump to, as far as it is asked for. They change the registers of arguments alone.
func (c *coder) routines() {
	at := int64(c.buf - globalOff)
	if len(c.put.mends) > 0 {
		c.here(c.put)
		c.emit(imm(api.Addi, firstArg+3, firstArg, 0), store(api.Sb, firstArg, global, int(at)))
		c.emit(imm(api.Addi, firstArg, zero, 1), imm(api.Addi, firstArg+1, global, at), imm(api.Addi, firstArg+2, zero, 1))
		c.kernel(api.SysWrite)
		c.emit(imm(api.Addi, firstArg, firstArg+3, 0), imm(api.Jalr, zero, back, 0))
	}
	if len(c.get.mends) > 0 {
		c.here(c.get)
		c.emit(imm(api.Addi, firstArg, zero, 0), imm(api.Addi, firstArg+1, global, at), imm(api.Addi, firstArg+2, zero, 1))
		c.kernel(api.SysRead)
		done := &label{} // one byte less one is 0: what isn't 0 then is below it, and the answer where there is no byte
		c.emit(imm(api.Addi, firstArg, firstArg, -1))
		c.jump(api.Inst{Op: api.Bne, Rs1: firstArg}, done)
		c.emit(load(api.Lbu, firstArg, global, int(at)))
		c.here(done)
		c.emit(imm(api.Jalr, zero, back, 0))
	}
}
