package gen

import (
	"binnacle/api"
	"binnacle/word"
)

// newCoder is one that knows where all data stand, and what its nodes are.
func newCoder(t api.Source, info api.Info) *coder {
	c := &coder{tree: t, info: info, texts: map[int]int{}, homes: map[int]home{}, funs: map[int]*label{}, put: &label{}, get: &label{}}
	c.facts = make([]fact, len(t))
	for i, n := range t {
		c.learn(i, n)
		switch n.Kind {
		case api.EText:
			c.texts[i] = len(c.data)
			c.data += n.Text + "\x00"
		case api.DFun:
			c.funs[i] = &label{}
		}
	}
	for i := len(t) - 1; i >= 0; i-- {
		for _, kid := range t[i].Kids {
			c.facts[kid].guarded = c.facts[i].guarded || t[i].Kind == api.SIf || t[i].Kind == api.SWhile
		}
	}
	c.end = len(c.data)
	c.buf = c.room(1)
	c.count = c.room(cell)
	for _, kind := range []int{api.SymVar, api.SymArray} { // the shorter ones are nearer
		for i, s := range info.Syms {
			if s.Kind == kind {
				c.homes[i] = home{inData, c.room(sizeOf(s))}
			}
		}
	}
	return c
}

// sizeOf is how many bytes a variable of the whole or an array has.
func sizeOf(s api.Sym) int {
	switch {
	case s.Kind == api.SymVar:
		return cell
	case s.Type == api.TypeStr:
		return s.N
	}
	return cell * s.N
}

// room is where so many bytes of noughts are.
func (c *coder) room(bytes int) int {
	at := (c.end + cell - 1) / cell * cell
	c.end = at + bytes
	return at
}

// learn notes what is to be known of a node behind its Kids.
func (c *coder) learn(i int, n api.Node) {
	f := &c.facts[i]
	for _, kid := range n.Kids {
		f.calls = f.calls || c.facts[kid].calls
		f.deep = f.deep || c.facts[kid].deep
	}
	switch n.Kind {
	case api.ENum:
		f.isConst, f.value = true, n.N
	case api.EUn:
		if k := c.facts[n.Kids[0]]; k.isConst {
			f.isConst, f.value = true, unary(n.N, k.value)
		}
	case api.EBin:
		a, b := c.facts[n.Kids[0]], c.facts[n.Kids[1]]
		if a.isConst && b.isConst {
			f.isConst, f.value = true, binary(n.N, a.value, b.value)
		}
	case api.EName:
		if s := c.symbol(i); s.Kind == api.SymLocal {
			c.facts[s.Node].uses++
		}
	case api.ECall:
		s := c.symbol(i)
		f.deep = f.deep || s.Kind == api.SymFun
		f.calls = f.calls || s.Kind == api.SymFun || !isQuiet(s.Name)
	}
}

// symbol is a name's.
func (c *coder) symbol(i int) api.Sym {
	return c.info.Syms[c.info.Of[i]]
}

// isQuiet tells the built functions that change no register but that of their answer.
func isQuiet(name string) bool {
	return name == "args" || name == "arg" || name == "adr"
}

func unary(op, x int64) int64 {
	switch op {
	case api.OpNeg:
		return -x
	case api.OpNot:
		return truth(x == 0)
	}
	return ^x
}

func truth(yes bool) int64 {
	if yes {
		return 1
	}
	return 0
}

// opcode is the one that reckons as an operator does; 0, if there is none.
func opcode(op int64) int {
	switch op {
	case api.OpMul:
		return api.Mul
	case api.OpDiv:
		return api.Div
	case api.OpMod:
		return api.Rem
	case api.OpAdd:
		return api.Add
	case api.OpSub:
		return api.Sub
	case api.OpShl:
		return api.Sll
	case api.OpShr:
		return api.Sra
	case api.OpAnd:
		return api.And
	case api.OpXor:
		return api.Xor
	case api.OpOr:
		return api.Or
	}
	return 0
}

// binary is what an operator makes of two numbers.
func binary(op, a, b int64) int64 {
	if code := opcode(op); code != 0 {
		v, _ := word.Reckon(code, uint64(a), uint64(b))
		return int64(v)
	}
	switch op {
	case api.OpLt:
		return truth(a < b)
	case api.OpLe:
		return truth(a <= b)
	case api.OpGt:
		return truth(a > b)
	case api.OpGe:
		return truth(a >= b)
	case api.OpEq:
		return truth(a == b)
	case api.OpNe:
		return truth(a != b)
	case api.OpBoth:
		return truth(a != 0 && b != 0)
	}
	return truth(a != 0 || b != 0)
}

// isPure tells whether an expression's value is the same whenever in its statement it is asked for, and asking for it is short.
func (c *coder) isPure(i int) bool {
	switch c.tree[i].Kind {
	case api.EText:
		return true
	case api.EName:
		return c.symbol(i).Kind != api.SymVar
	}
	return c.facts[i].isConst
}

// isTruth tells whether an expression's value is 0 or 1.
func (c *coder) isTruth(i int) bool {
	n := c.tree[i]
	if f := c.facts[i]; f.isConst {
		return f.value == 0 || f.value == 1
	}
	return n.Kind == api.EUn && n.N == api.OpNot || n.Kind == api.EBin && opcode(n.N) == 0
}

// scale is by how much a pointer of a type goes on for one element, as a shift.
func scale(kind int) int64 {
	if kind == api.TypePtr {
		return 3
	}
	return 0
}
