package gen

import (
	"binnacle/api"
)

// do does a statement: whether what is behind it can be come to.
func (c *coder) do(i int) bool {
	n := c.tree[i]
	switch n.Kind {
	case api.SBlock:
		for _, kid := range n.Kids {
			if !c.do(kid) {
				return false
			}
		}
	case api.SVar:
		if len(n.Kids) > 0 {
			c.assign(c.info.Of[i], n.Kids[0])
		} else {
			c.keepValue(c.info.Of[i], zero)
		}
	case api.SExpr:
		c.effect(n.Kids[0])
		return !c.exits(n.Kids[0])
	case api.SSet:
		if c.tree[n.Kids[0]].Kind == api.EName {
			c.assign(c.info.Of[n.Kids[0]], n.Kids[1])
		} else {
			c.setElement(n.Kids[0], n.Kids[1])
		}
	case api.SIf:
		return c.either(n)
	case api.SWhile:
		return c.loop(n)
	case api.SRet:
		c.into(n.Kids[0], 0, firstArg)
		c.goBack()
		return false
	case api.SBreak:
		c.goTo(c.fun.out)
		return false
	case api.SNext:
		c.goTo(c.fun.next)
		return false
	}
	return true
}

// goBack leaves the function: by a jump to its end, if more than one instruction stands there.
func (c *coder) goBack() {
	if c.fun.top || c.fun.size > 0 {
		c.goTo(c.fun.back)
		return
	}
	c.emit(imm(api.Jalr, zero, back, 0))
}

// exits tells whether an expression is the process's end.
func (c *coder) exits(i int) bool {
	if c.tree[i].Kind != api.ECall {
		return false
	}
	s := c.symbol(i)
	return s.Kind == api.SymBuilt && s.Name == "exit"
}

// effect reckons an expression for what it does alone.
func (c *coder) effect(i int) {
	n := c.tree[i]
	switch {
	case !c.facts[i].calls:
	case n.Kind == api.EBin && (n.N == api.OpBoth || n.N == api.OpAny):
		done := &label{}
		c.test(n.Kids[0], 0, n.N == api.OpAny, done)
		c.effect(n.Kids[1])
		c.here(done)
	case n.Kind == api.ECall:
		c.value(i, 0)
	default:
		for _, kid := range n.Kids {
			c.effect(kid)
		}
	}
}

// assign gives a variable an expression's value.
func (c *coder) assign(symbol, from int) {
	h := c.homes[symbol]
	switch h.kind {
	case unused:
		c.effect(from)
	case inReg:
		c.into(from, 0, h.at)
	case inFrame:
		c.emit(store(api.Sd, c.value(from, 0), stack, h.at))
	case inData:
		v := c.value(from, 0)
		if near(h.at) {
			c.emit(store(api.Sd, v, global, h.at-globalOff))
			return
		}
		at := place(1)
		c.far(h.at, at, store(api.Sd, v, at, 0))
	}
}

// setElement gives an array's element an expression's value.
func (c *coder) setElement(left, from int) {
	n := c.tree[left]
	var v, at, off int
	if c.isPure(n.Kids[0]) && c.isPure(n.Kids[1]) {
		v = c.value(from, 0)
		k := 0
		if v == place(0) {
			k = 1
		}
		at, off = c.element(n, k)
	} else {
		at, off = c.element(n, 0)
		if at == firstArg && c.facts[from].calls {
			c.move(place(0), at)
			at = place(0)
		}
		k := 0
		if at == place(0) {
			k = 1
		}
		v = c.value(from, k)
	}
	op := api.Sb
	if c.info.Type[n.Kids[0]] == api.TypePtr {
		op = api.Sd
	}
	c.emit(store(op, v, at, off))
}

// either does an SIf.
func (c *coder) either(n api.Node) bool {
	if f := c.facts[n.Kids[0]]; f.isConst {
		if f.value != 0 {
			return c.do(n.Kids[1])
		}
		return len(n.Kids) < 3 || c.do(n.Kids[2])
	}
	if to := c.leap(n.Kids[1]); to != nil {
		c.test(n.Kids[0], 0, true, to)
		return len(n.Kids) < 3 || c.do(n.Kids[2])
	}
	other, done := &label{}, &label{}
	c.test(n.Kids[0], 0, false, other)
	goes := c.do(n.Kids[1])
	if len(n.Kids) < 3 {
		c.here(other)
		return true
	}
	if goes {
		c.goTo(done)
	}
	c.here(other)
	also := c.do(n.Kids[2])
	c.here(done)
	return goes || also
}

// leap is where a statement jumps to that is nothing else; nil, if it is something else.
func (c *coder) leap(i int) *label {
	switch c.tree[i].Kind {
	case api.SBreak:
		return c.fun.out
	case api.SNext:
		return c.fun.next
	}
	return nil
}

// loop does an SWhile.
func (c *coder) loop(n api.Node) bool {
	f := c.facts[n.Kids[0]]
	if f.isConst && f.value == 0 {
		return true
	}
	next, out := c.fun.next, c.fun.out
	c.fun.next, c.fun.out = &label{}, &label{}
	top := &label{}
	if f.isConst {
		c.fun.next = top
	} else {
		c.goTo(c.fun.next)
	}
	c.here(top)
	goes := c.do(n.Kids[1])
	if !f.isConst {
		c.here(c.fun.next)
		c.test(n.Kids[0], 0, true, top)
	} else if goes {
		c.goTo(top)
	}
	c.here(c.fun.out)
	left := len(c.fun.out.mends) > 0
	c.fun.next, c.fun.out = next, out
	return left || !f.isConst
}
