package sort

import (
	"binnacle/api"
)

// question asks of a node what may be wrong with it, and notes its symbol and type.
type question func(c *checker, i int) api.Errno

// questions are those of each kind of node; of a kind without one nothing can be wrong.
func questions() map[int]question {
	return map[int]question{
		api.SVar:   (*checker).variable,
		api.ENum:   (*checker).number,
		api.EText:  (*checker).text,
		api.EName:  (*checker).name,
		api.ECall:  (*checker).call,
		api.EIndex: (*checker).index,
		api.EUn:    (*checker).unary,
		api.EBin:   (*checker).binary,
		api.SSet:   (*checker).set,
		api.SIf:    (*checker).condition,
		api.SWhile: (*checker).condition,
		api.SRet:   (*checker).condition,
		api.SBreak: (*checker).leave,
		api.SNext:  (*checker).leave,
		api.DAll:   (*checker).whole,
	}
}

// kid is the type of a node's k-th Kid.
func (c *checker) kid(i, k int) int {
	return c.info.Type[c.tree[i].Kids[k]]
}

// must is ErrType, unless that holds.
func must(holds bool) api.Errno {
	if !holds {
		return api.ErrType
	}
	return api.OK
}

func isPointer(kind int) bool {
	return kind == api.TypeStr || kind == api.TypePtr
}

func (c *checker) variable(i int) api.Errno {
	n := c.tree[i]
	key := local{c.owner[i], n.Text}
	if _, ok := c.locals[key]; ok {
		return api.ErrThere
	}
	own := c.info.Of[i]
	if c.info.Syms[own].N >= api.MaxLocals {
		return api.ErrMany
	}
	c.locals[key] = own
	return must(len(n.Kids) == 0 || c.kid(i, 0) == n.M)
}

func (c *checker) number(i int) api.Errno {
	c.info.Type[i] = api.TypeInt
	return api.OK
}

func (c *checker) text(i int) api.Errno {
	c.info.Type[i] = api.TypeStr
	return api.OK
}

// meaning notes a name's symbol and its type; false, if it has none.
func (c *checker) meaning(i int) (api.Sym, bool) {
	found := c.find(i)
	if found == nothing {
		return api.Sym{}, false
	}
	s := c.info.Syms[found]
	c.info.Of[i], c.info.Type[i] = found, s.Type
	return s, true
}

func isFunction(s api.Sym) bool {
	return s.Kind == api.SymFun || s.Kind == api.SymBuilt
}

func (c *checker) name(i int) api.Errno {
	s, ok := c.meaning(i)
	if !ok {
		return api.ErrLink
	}
	return must(!isFunction(s))
}

func (c *checker) call(i int) api.Errno {
	s, ok := c.meaning(i)
	if !ok {
		return api.ErrLink
	}
	if !isFunction(s) || len(c.tree[i].Kids) != s.N {
		return api.ErrType
	}
	for k := range s.N {
		if !c.takes(s, k, c.kid(i, k)) {
			return api.ErrType
		}
	}
	return api.OK
}

// takes tells whether a function's k-th argument may be of that type.
func (c *checker) takes(s api.Sym, k, kind int) bool {
	switch {
	case s.Kind == api.SymFun:
		return c.tree[c.tree[s.Node].Kids[k]].M == kind
	case s.Name == "adr" || s.Name == "sys" && k > 0:
		return true
	}
	return kind == api.TypeInt
}

func (c *checker) index(i int) api.Errno {
	c.info.Type[i] = api.TypeInt
	return must(isPointer(c.kid(i, 0)) && c.kid(i, 1) == api.TypeInt)
}

func (c *checker) unary(i int) api.Errno {
	c.info.Type[i] = api.TypeInt
	return must(c.kid(i, 0) == api.TypeInt)
}

func (c *checker) binary(i int) api.Errno {
	first := c.kid(i, 0)
	c.info.Type[i] = api.TypeInt
	if c.tree[i].N == api.OpAdd && isPointer(first) {
		c.info.Type[i] = first
		first = api.TypeInt
	}
	return must(first == api.TypeInt && c.kid(i, 1) == api.TypeInt)
}

func (c *checker) set(i int) api.Errno {
	left := c.tree[i].Kids[0]
	if c.tree[left].Kind == api.EName && c.info.Syms[c.info.Of[left]].Kind == api.SymArray {
		return api.ErrType
	}
	return must(c.kid(i, 0) == c.kid(i, 1))
}

// condition asks of a node whose first Kid must be a number.
func (c *checker) condition(i int) api.Errno {
	return must(c.kid(i, 0) == api.TypeInt)
}

func (c *checker) leave(i int) api.Errno {
	if !c.inLoop[i] {
		return api.ErrSyntax
	}
	return api.OK
}

func (c *checker) whole(int) api.Errno {
	if s, ok := c.globals["main"]; ok && c.info.Syms[s].Kind == api.SymFun && c.info.Syms[s].N == 0 {
		return api.OK
	}
	return api.ErrLink
}
