package mean

import (
	"binnacle/api"
	"binnacle/word"
)

// How a statement ends.
const (
	goesOn = iota
	returns
	breaks
	nexts
)

// do does a statement: how it ends.
func (r *run) do(i int) int {
	r.spend()
	n := r.tree[i]
	switch n.Kind {
	case api.SBlock:
		for _, kid := range n.Kids {
			if how := r.do(kid); how != goesOn {
				return how
			}
		}
	case api.SVar:
		v := value{}
		if len(n.Kids) > 0 {
			v = r.reckon(n.Kids[0])
		}
		*r.variable(r.info.Of[i]) = v
	case api.SExpr:
		r.reckon(n.Kids[0])
	case api.SSet:
		r.set(n.Kids[0], n.Kids[1])
	case api.SIf:
		if r.reckon(n.Kids[0]).n != 0 {
			return r.do(n.Kids[1])
		}
		if len(n.Kids) > 2 {
			return r.do(n.Kids[2])
		}
	case api.SWhile:
		return r.loop(n)
	case api.SRet:
		r.answer = r.reckon(n.Kids[0])
		return returns
	case api.SBreak:
		return breaks
	case api.SNext:
		return nexts
	}
	return goesOn
}

// loop does a statement as long as its condition isn't 0.
func (r *run) loop(n api.Node) int {
	how := goesOn
rounds:
	for r.reckon(n.Kids[0]).n != 0 {
		switch r.do(n.Kids[1]) {
		case breaks:
			break rounds
		case returns:
			how = returns
			break rounds
		}
	}
	return how
}

// variable is where a symbol's value stands.
func (r *run) variable(symbol int) *value {
	s := r.info.Syms[symbol]
	if s.Kind == api.SymLocal {
		return &r.frame[s.N]
	}
	return &r.globals[symbol]
}

// set gives a variable or an element a value.
func (r *run) set(left, right int) {
	n := r.tree[left]
	if n.Kind == api.EName {
		v := r.reckon(right)
		*r.variable(r.info.Of[left]) = v
		return
	}
	at := r.element(n)
	v := r.reckon(right)
	x := r.objects[at.object]
	if x.fixed || !x.has(at.n) {
		wrong()
	}
	if x.bytes {
		v.n = int64(byte(v.n))
	}
	x.cells[at.n] = v.n
}

// element reckons both Kids of an EIndex: the pointer of the element.
func (r *run) element(n api.Node) value {
	at := r.reckon(n.Kids[0])
	at.n += r.reckon(n.Kids[1]).n
	return at
}

func (x object) has(place int64) bool {
	return place >= 0 && place < int64(len(x.cells))
}

// reckon is an expression's value.
func (r *run) reckon(i int) value {
	r.spend()
	n := r.tree[i]
	switch n.Kind {
	case api.ENum:
		return value{n: n.N}
	case api.EText:
		return value{object: r.places[len(r.info.Syms)+i]}
	case api.EName:
		symbol := r.info.Of[i]
		if r.info.Syms[symbol].Kind == api.SymArray {
			return value{object: r.places[symbol]}
		}
		return *r.variable(symbol)
	case api.EIndex:
		at := r.element(n)
		x := r.objects[at.object]
		if !x.has(at.n) {
			wrong()
		}
		return value{n: x.cells[at.n]}
	case api.EUn:
		return value{n: unary(n.N, r.reckon(n.Kids[0]).n)}
	case api.EBin:
		return r.binary(n)
	}
	args := make([]value, len(n.Kids))
	for k, kid := range n.Kids {
		args[k] = r.reckon(kid)
	}
	s := r.info.Syms[r.info.Of[i]]
	if s.Kind == api.SymFun {
		return r.call(s.Node, args)
	}
	return r.builtIn(s.Name, args)
}

func unary(op, x int64) int64 {
	switch op {
	case api.OpNeg:
		return -x
	case api.OpNot:
		return truth(x == 0)
	}
	return ^x
}

func truth(yes bool) int64 {
	if yes {
		return 1
	}
	return 0
}

func (r *run) binary(n api.Node) value {
	a := r.reckon(n.Kids[0])
	switch {
	case n.N == api.OpBoth && a.n == 0:
		return value{n: 0}
	case n.N == api.OpAny && a.n != 0:
		return value{n: 1}
	}
	b := r.reckon(n.Kids[1]).n
	if op := opcode(n.N); op != 0 {
		v, _ := word.Reckon(op, uint64(a.n), uint64(b))
		return value{int64(v), a.object}
	}
	return value{n: compare(n.N, a.n, b)}
}

// opcode is the one that reckons as an operator does; 0, if there is none.
func opcode(op int64) int {
	switch op {
	case api.OpMul:
		return api.Mul
	case api.OpDiv:
		return api.Div
	case api.OpMod:
		return api.Rem
	case api.OpAdd:
		return api.Add
	case api.OpSub:
		return api.Sub
	case api.OpShl:
		return api.Sll
	case api.OpShr:
		return api.Sra
	case api.OpXor:
		return api.Xor
	case api.OpAnd:
		return api.And
	case api.OpOr:
		return api.Or
	}
	return 0
}

// compare is what the other operators say, OpBoth and OpAny of a second number.
func compare(op, a, b int64) int64 {
	switch op {
	case api.OpLt:
		return truth(a < b)
	case api.OpLe:
		return truth(a <= b)
	case api.OpGt:
		return truth(a > b)
	case api.OpGe:
		return truth(a >= b)
	case api.OpEq:
		return truth(a == b)
	case api.OpNe:
		return truth(a != b)
	}
	return truth(b != 0)
}

// builtIn calls a function that there is always.
func (r *run) builtIn(name string, args []value) value {
	switch name {
	case "put":
		r.out = append(r.out, byte(args[0].n))
		return args[0]
	case "get":
		if r.in == "" {
			end(api.RanWaits, 0)
		}
		c := r.in[0]
		r.in = r.in[1:]
		return value{n: int64(c)}
	case "exit":
		end(api.RanDone, args[0].n)
	case "args":
		return value{n: int64(r.many)}
	case "arg":
		if i := args[0].n; i >= 0 && i < int64(r.many) {
			return value{object: r.args + int(i)}
		}
	}
	wrong()
	return value{}
}
