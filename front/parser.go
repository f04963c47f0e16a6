package front

import (
	"binnacle/api"
)

// parser makes nodes of tokens: tok is the one that is looked at, open how many statements and operands have begun and not ended.
type parser struct {
	lexer
	tok   token
	nodes api.Source
	open  int
}

func (p *parser) next() {
	p.tok = p.token()
}

// refuse gives up at the token that is looked at.
func (p *parser) refuse(e api.Errno) {
	panic(fault{e, p.tok.at})
}

func (p *parser) is(sign string) bool {
	return p.tok.kind == isSign && p.tok.text == sign
}

// may goes behind a sign, if it stands there.
func (p *parser) may(sign string) bool {
	if !p.is(sign) {
		return false
	}
	p.next()
	return true
}

func (p *parser) must(sign string) {
	if !p.may(sign) {
		p.refuse(api.ErrSyntax)
	}
}

// take goes behind a token of a kind that must stand there.
func (p *parser) take(kind int) token {
	t := p.tok
	if t.kind != kind {
		p.refuse(api.ErrSyntax)
	}
	p.next()
	return t
}

// add makes a node, behind whose last token the parser is.
func (p *parser) add(n api.Node) int {
	if len(p.nodes) == api.MaxNodes {
		p.refuse(api.ErrMany)
	}
	p.nodes = append(p.nodes, n)
	return len(p.nodes) - 1
}

// begin begins a statement or an operand.
func (p *parser) begin() {
	if p.open == api.MaxNest {
		p.refuse(api.ErrMany)
	}
	p.open++
}

func (p *parser) all() {
	var kids []int
	for p.tok.kind != isEnd {
		kids = append(kids, p.declaration())
	}
	p.add(api.Node{Kind: api.DAll, Kids: kids})
}

func (p *parser) declaration() int {
	at, isInt := p.tok.at, p.is("int")
	if !p.may("char") {
		p.must("int")
	}
	name := p.take(isName).text
	if isInt && p.may(";") {
		return p.add(api.Node{Kind: api.DVar, At: at, Text: name, M: api.TypeInt})
	}
	if isInt && p.may("(") {
		return p.function(at, name)
	}
	p.must("[")
	n := p.take(isNumber).n
	p.must("]")
	p.must(";")
	kind := api.TypeStr
	if isInt {
		kind = api.TypePtr
	}
	return p.add(api.Node{Kind: api.DArray, At: at, Text: name, N: n, M: kind})
}

// function is one, behind its first bracket.
func (p *parser) function(at int, name string) int {
	var kids []int
	for !p.is(")") {
		if len(kids) > 0 {
			p.must(",")
		}
		kids = append(kids, p.add(p.param()))
	}
	p.next()
	params := len(kids)
	kids = append(kids, p.block())
	return p.add(api.Node{Kind: api.DFun, At: at, Text: name, M: params, Kids: kids})
}

// param is a variable's type and name.
func (p *parser) param() api.Node {
	n := api.Node{Kind: api.SVar, At: p.tok.at, M: api.TypeInt}
	if p.may("char") {
		p.must("*")
		n.M = api.TypeStr
	} else {
		p.must("int")
		if p.may("*") {
			n.M = api.TypePtr
		}
	}
	n.Text = p.take(isName).text
	return n
}

func (p *parser) block() int {
	n := api.Node{Kind: api.SBlock, At: p.tok.at}
	p.must("{")
	for !p.is("}") {
		n.Kids = append(n.Kids, p.statement())
	}
	p.next()
	return p.add(n)
}

func (p *parser) statement() int {
	p.begin()
	n := 0
	switch {
	case p.is("{"):
		n = p.block()
	case p.is("if"):
		n = p.branch()
	case p.is("while"):
		n = p.loop()
	default:
		n = p.line()
	}
	p.open--
	return n
}

// condition is a word and an expression in brackets.
func (p *parser) condition() int {
	p.next()
	p.must("(")
	n := p.expression(1)
	p.must(")")
	return n
}

func (p *parser) branch() int {
	at := p.tok.at
	kids := []int{p.condition()}
	kids = append(kids, p.statement())
	if p.may("else") {
		kids = append(kids, p.statement())
	}
	return p.add(api.Node{Kind: api.SIf, At: at, Kids: kids})
}

func (p *parser) loop() int {
	at := p.tok.at
	kids := []int{p.condition()}
	kids = append(kids, p.statement())
	return p.add(api.Node{Kind: api.SWhile, At: at, Kids: kids})
}

// line is a statement that ends with a semicolon.
func (p *parser) line() int {
	n := api.Node{At: p.tok.at}
	switch {
	case p.is("int") || p.is("char"):
		n = p.param()
		if p.may("=") {
			n.Kids = []int{p.expression(1)}
		}
	case p.may("return"):
		n.Kind, n.Kids = api.SRet, []int{p.expression(1)}
	case p.may("break"):
		n.Kind = api.SBreak
	case p.may("continue"):
		n.Kind = api.SNext
	default:
		n.Kind, n.Kids = api.SExpr, []int{p.expression(1)}
		if p.is("=") {
			p.set(&n)
		}
	}
	p.must(";")
	return p.add(n)
}

// set makes a statement of one expression one that sets it.
func (p *parser) set(n *api.Node) {
	left := p.nodes[n.Kids[0]]
	if left.Kind != api.EName && left.Kind != api.EIndex {
		p.refuse(api.ErrSyntax)
	}
	p.next()
	n.Kind, n.At = api.SSet, left.At
	n.Kids = append(n.Kids, p.expression(1))
}

// expression is one whose operators between operands are of a level at least.
func (p *parser) expression(least int) int {
	left := p.operand()
	for p.tok.kind == isSign {
		op := operator(p.tok.text, api.OpMul, api.OpAny)
		if op == 0 || levels[op] < least {
			break
		}
		p.next()
		right := p.expression(levels[op] + 1)
		left = p.add(api.Node{Kind: api.EBin, At: p.nodes[left].At, N: int64(op), Kids: []int{left, right}})
	}
	return left
}

func (p *parser) operand() int {
	p.begin()
	n := 0
	at, op := p.tok.at, 0
	if p.tok.kind == isSign {
		op = operator(p.tok.text, api.OpNeg, api.OpFlip)
	}
	if op != 0 {
		p.next()
		n = p.operand()
		n = p.add(api.Node{Kind: api.EUn, At: at, N: int64(op), Kids: []int{n}})
	} else {
		n = p.primary()
		for p.may("[") {
			i := p.expression(1)
			p.must("]")
			n = p.add(api.Node{Kind: api.EIndex, At: p.nodes[n].At, Kids: []int{n, i}})
		}
	}
	p.open--
	return n
}

func (p *parser) primary() int {
	t := p.tok
	switch t.kind {
	case isNumber:
		p.next()
		return p.add(api.Node{Kind: api.ENum, At: t.at, N: t.n})
	case isString:
		p.next()
		return p.add(api.Node{Kind: api.EText, At: t.at, Text: t.text})
	case isName:
		p.next()
		if !p.may("(") {
			return p.add(api.Node{Kind: api.EName, At: t.at, Text: t.text})
		}
		return p.call(t)
	}
	p.must("(")
	n := p.expression(1)
	p.must(")")
	return n
}

// call is one, behind its first bracket.
func (p *parser) call(name token) int {
	var kids []int
	for !p.is(")") {
		if len(kids) > 0 {
			p.must(",")
		}
		kids = append(kids, p.expression(1))
	}
	p.next()
	return p.add(api.Node{Kind: api.ECall, At: name.at, Text: name.text, Kids: kids})
}
