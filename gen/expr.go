package gen

import (
	"math/bits"

	"binnacle/api"
)

// value reckons an expression with the places from k on: the register that has it then. That is place k, a variable's own register (not to be written), or that of a call's answer (until the next call).
func (c *coder) value(i, k int) int {
	n := c.tree[i]
	if f := c.facts[i]; f.isConst && f.value == 0 {
		return zero
	}
	switch n.Kind {
	case api.EName:
		if h := c.homes[c.info.Of[i]]; h.kind == inReg {
			return h.at
		}
	case api.ECall:
		if s := c.symbol(i); s.Name == "adr" && s.Kind == api.SymBuilt {
			return c.value(n.Kids[0], k)
		} else if s.Kind == api.SymFun || !isQuiet(s.Name) {
			c.call(i, k)
			return firstArg
		}
	}
	rd := place(k)
	c.into(i, k, rd)
	return rd
}

// into reckons an expression with the places from k on, into a register.
func (c *coder) into(i, k, rd int) {
	n := c.tree[i]
	if f := c.facts[i]; f.isConst {
		c.number(rd, f.value)
		return
	}
	switch n.Kind {
	case api.EText:
		c.address(rd, c.texts[i])
	case api.EName:
		c.name(i, rd)
	case api.EIndex:
		at, off := c.element(n, k)
		op := api.Lbu
		if c.info.Type[n.Kids[0]] == api.TypePtr {
			op = api.Ld
		}
		c.emit(load(op, rd, at, off))
	case api.EUn:
		a := c.value(n.Kids[0], k)
		switch n.N {
		case api.OpNeg:
			c.emit(reg(api.Sub, rd, zero, a))
		case api.OpNot:
			c.emit(imm(api.Sltiu, rd, a, 1))
		default:
			c.emit(imm(api.Xori, rd, a, -1))
		}
	case api.EBin:
		c.binary(i, k, rd)
	default:
		c.callInto(i, k, rd)
	}
}

// name gives a register a variable's value, or an array's address.
func (c *coder) name(i, rd int) {
	s, h := c.symbol(i), c.homes[c.info.Of[i]]
	switch {
	case s.Kind == api.SymArray:
		c.address(rd, h.at)
	case h.kind == inReg:
		c.move(rd, h.at)
	case h.kind == inFrame:
		c.emit(load(api.Ld, rd, stack, h.at))
	case near(h.at):
		c.emit(load(api.Ld, rd, global, h.at-globalOff))
	default:
		c.far(h.at, rd, load(api.Ld, rd, rd, 0))
	}
}

// callInto gives a register a call's answer.
func (c *coder) callInto(i, k, rd int) {
	n, s := c.tree[i], c.symbol(i)
	switch {
	case s.Kind == api.SymBuilt && s.Name == "args":
		c.emit(load(api.Ld, rd, global, c.count-globalOff))
	case s.Kind == api.SymBuilt && s.Name == "arg":
		if f := c.facts[n.Kids[0]]; f.isConst && f.value >= 0 && f.value < api.MaxArgs {
			c.emit(load(api.Ld, rd, argWords, int(cell*f.value)))
			return
		}
		at := place(k)
		c.emit(imm(api.Slli, at, c.value(n.Kids[0], k), 3), reg(api.Add, at, at, argWords), load(api.Ld, rd, at, 0))
	default:
		c.move(rd, c.value(i, k))
	}
}

// fixed is where in the data what an expression tells the address of stands; false, if that isn't known, or far.
func (c *coder) fixed(i int) (int, bool) {
	at := nowhere
	switch n := c.tree[i]; n.Kind {
	case api.EText:
		at = c.texts[i]
	case api.EName:
		if c.symbol(i).Kind == api.SymArray {
			at = c.homes[c.info.Of[i]].at
		}
	}
	return at, at != nowhere && near(at)
}

// element reckons what an EIndex is of: a register, and how far behind its address.
func (c *coder) element(n api.Node, k int) (int, int) {
	base, index := n.Kids[0], n.Kids[1]
	shift := scale(c.info.Type[base])
	at, known := c.fixed(base)
	if f := c.facts[index]; f.isConst && fits(f.value) && fits(f.value<<shift) {
		off := int(f.value << shift)
		if known && near(at+off) {
			return global, at + off - globalOff
		}
		return c.value(base, k), off
	}
	if known {
		rd := place(k)
		c.emit(reg(api.Add, rd, c.scaled(c.value(index, k), rd, shift), global))
		return rd, at - globalOff
	}
	a, b := c.both(base, index, k)
	rd := place(k)
	if shift == 0 {
		c.emit(reg(api.Add, rd, a, b))
		return rd, 0
	}
	c.sum(rd, a, b, k, shift)
	return rd, 0
}

// scaled is a register that has another one's value, shifted: rd, if it has to be.
func (c *coder) scaled(from, rd int, shift int64) int {
	if shift == 0 {
		return from
	}
	c.emit(imm(api.Slli, rd, from, shift))
	return rd
}

// sum adds an index, shifted, to an address, with a place besides those in which they are.
func (c *coder) sum(rd, a, b, k int, shift int64) {
	tmp := place(k)
	if a == tmp {
		tmp = place(k + 1)
	}
	c.emit(imm(api.Slli, tmp, b, shift), reg(api.Add, rd, a, tmp))
}

// both reckons two expressions with the places from k on: their registers.
func (c *coder) both(i, j, k int) (int, int) {
	next := func(r int) int { // the places that are left besides a value's
		if r == place(k) {
			return k + 1
		}
		return k
	}
	if c.isPure(i) && !c.isPure(j) { // so it needs no place while the other one is reckoned
		b := c.value(j, k)
		return c.value(i, next(b)), b
	}
	var a int
	if c.facts[j].calls {
		a = place(k)
		c.into(i, k, a)
	} else {
		a = c.value(i, k)
	}
	return a, c.value(j, next(a))
}

// binary reckons an EBin.
func (c *coder) binary(i, k, rd int) {
	n := c.tree[i]
	a, b := n.Kids[0], n.Kids[1]
	if n.N == api.OpBoth || n.N == api.OpAny {
		c.logic(i, k, rd)
		return
	}
	if c.facts[a].isConst && commutes(n.N) {
		a, b = b, a
	}
	shift := scale(c.info.Type[i])
	if f := c.facts[b]; f.isConst && c.immediate(n.N, a, f.value<<shift, k, rd) {
		return
	}
	x, y := c.both(a, b, k)
	if shift != 0 {
		c.sum(rd, x, y, k, shift)
		return
	}
	if op := opcode(n.N); op != 0 {
		c.emit(reg(op, rd, x, y))
		return
	}
	switch n.N {
	case api.OpLt:
		c.emit(reg(api.Slt, rd, x, y))
	case api.OpGt:
		c.emit(reg(api.Slt, rd, y, x))
	case api.OpLe:
		c.emit(reg(api.Slt, rd, y, x), imm(api.Xori, rd, rd, 1))
	case api.OpGe:
		c.emit(reg(api.Slt, rd, x, y), imm(api.Xori, rd, rd, 1))
	case api.OpEq:
		c.emit(reg(api.Xor, rd, x, y), imm(api.Sltiu, rd, rd, 1))
	default:
		c.emit(reg(api.Xor, rd, x, y), reg(api.Sltu, rd, zero, rd))
	}
}

func commutes(op int64) bool {
	return op == api.OpAdd || op == api.OpMul || op == api.OpAnd || op == api.OpOr || op == api.OpXor || op == api.OpEq || op == api.OpNe
}

// immediate reckons an operator with a number behind it, if there are instructions for that; false, if there are none: then nothing was emitted.
func (c *coder) immediate(op int64, a int, n int64, k, rd int) bool {
	emit := func(rows ...api.Inst) bool {
		from := c.value(a, k)
		rows[0].Rs1 = from
		c.emit(rows...)
		return true
	}
	switch {
	case op == api.OpMul && n > 0 && n&(n-1) == 0:
		return emit(imm(api.Slli, rd, 0, int64(bits.TrailingZeros64(uint64(n)))))
	case op == api.OpShl:
		return emit(imm(api.Slli, rd, 0, n&63))
	case op == api.OpShr:
		return emit(imm(api.Srai, rd, 0, n&63))
	case op == api.OpSub && fits(-n):
		return emit(imm(api.Addi, rd, 0, -n))
	case op == api.OpNe && n == 0:
		from := c.value(a, k)
		c.emit(reg(api.Sltu, rd, zero, from))
		return true
	case op == api.OpEq && n == 0:
		return emit(imm(api.Sltiu, rd, 0, 1))
	case !fits(n):
		return false
	}
	switch op {
	case api.OpAdd:
		return emit(imm(api.Addi, rd, 0, n))
	case api.OpAnd:
		return emit(imm(api.Andi, rd, 0, n))
	case api.OpOr:
		return emit(imm(api.Ori, rd, 0, n))
	case api.OpXor:
		return emit(imm(api.Xori, rd, 0, n))
	case api.OpLt:
		return emit(imm(api.Slti, rd, 0, n))
	case api.OpGe:
		return emit(imm(api.Slti, rd, 0, n), imm(api.Xori, rd, rd, 1))
	case api.OpEq:
		return emit(imm(api.Xori, rd, 0, n), imm(api.Sltiu, rd, rd, 1))
	case api.OpNe:
		return emit(imm(api.Xori, rd, 0, n), reg(api.Sltu, rd, zero, rd))
	}
	return c.orEqual(op, n, emit, rd)
}

// orEqual reckons what is at most a number, or above it: it is less than the next one, or isn't.
func (c *coder) orEqual(op, n int64, emit func(rows ...api.Inst) bool, rd int) bool {
	if !fits(n + 1) {
		return false
	}
	switch op {
	case api.OpLe:
		return emit(imm(api.Slti, rd, 0, n+1))
	case api.OpGt:
		return emit(imm(api.Slti, rd, 0, n+1), imm(api.Xori, rd, rd, 1))
	}
	return false
}

// logic reckons OpBoth and OpAny; the second Kid may ask for the variable whose register rd is, so that isn't written ahead of it.
func (c *coder) logic(i, k, rd int) {
	n, done := c.tree[i], &label{}
	w := rd
	if c.isHome(rd) {
		w = place(k)
	}
	op := api.Beq
	if n.N == api.OpAny {
		op = api.Bne
		c.truth(n.Kids[0], k, w)
	} else {
		c.into(n.Kids[0], k, w)
	}
	c.jump(api.Inst{Op: op, Rs1: w}, done)
	c.truth(n.Kids[1], k, w)
	c.here(done)
	c.move(rd, w)
}

// truth reckons whether an expression isn't 0.
func (c *coder) truth(i, k, rd int) {
	if c.isTruth(i) {
		c.into(i, k, rd)
		return
	}
	c.emit(reg(api.Sltu, rd, zero, c.value(i, k)))
}

// isHome tells whether a register is a variable's.
func (c *coder) isHome(rd int) bool {
	for _, r := range c.fun.regs {
		if r == rd {
			return true
		}
	}
	return false
}

// test jumps to a label, if it is said of an expression that it isn't 0 and that is so, or that it is 0.
func (c *coder) test(i, k int, holds bool, to *label) {
	n := c.tree[i]
	if f := c.facts[i]; f.isConst {
		if (f.value != 0) == holds {
			c.goTo(to)
		}
		return
	}
	if n.Kind == api.EUn && n.N == api.OpNot {
		c.test(n.Kids[0], k, !holds, to)
		return
	}
	if n.Kind == api.EBin && (n.N == api.OpBoth || n.N == api.OpAny) {
		if (n.N == api.OpAny) == holds { // each of them alone is enough
			c.test(n.Kids[0], k, holds, to)
			c.test(n.Kids[1], k, holds, to)
			return
		}
		not := &label{}
		c.test(n.Kids[0], k, !holds, not)
		c.test(n.Kids[1], k, holds, to)
		c.here(not)
		return
	}
	if n.Kind == api.EBin && opcode(n.N) == 0 {
		c.branch(n, k, holds, to)
		return
	}
	op := api.Beq
	if holds {
		op = api.Bne
	}
	c.jump(api.Inst{Op: op, Rs1: c.value(i, k)}, to)
}

// branch jumps to a label, if a comparison holds, or if it doesn't.
func (c *coder) branch(n api.Node, k int, holds bool, to *label) {
	x, y := c.both(n.Kids[0], n.Kids[1], k)
	if n.N == api.OpGt || n.N == api.OpLe {
		x, y = y, x
	}
	op, not := api.Beq, api.Bne
	switch n.N {
	case api.OpNe:
		op, not = api.Bne, api.Beq
	case api.OpLt, api.OpGt:
		op, not = api.Blt, api.Bge
	case api.OpLe, api.OpGe:
		op, not = api.Bge, api.Blt
	}
	if !holds {
		op = not
	}
	c.jump(api.Inst{Op: op, Rs1: x, Rs2: y}, to)
}
