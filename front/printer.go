package front

import (
	"slices"
	"strconv"
	"strings"

	"binnacle/api"
)

// same tells whether two trees are, but for At.
func same(a, b api.Source) bool {
	return slices.EqualFunc(a, b, func(x, y api.Node) bool {
		return x.Kind == y.Kind && x.Text == y.Text && x.N == y.N && x.M == y.M && slices.Equal(x.Kids, y.Kids)
	})
}

// isTree tells whether nodes stand behind their Kids, these one behind the other, have so many of them as their kinds ask for, and the last one is the whole.
func isTree(t api.Source) bool {
	if len(t) == 0 || len(t) > api.MaxNodes || t[len(t)-1].Kind != api.DAll {
		return false
	}
	var ended []int // the nodes that are no Kids yet
	for i, n := range t {
		from := len(ended) - len(n.Kids)
		if from < 0 || !slices.Equal(ended[from:], n.Kids) || !mayHave(n.Kind, len(n.Kids)) || len(n.Text) > api.MaxString {
			return false
		}
		ended = append(ended[:from], i)
	}
	return len(ended) == 1
}

// mayHave tells whether a node of a kind may have so many Kids.
func mayHave(kind, kids int) bool {
	switch kind {
	case api.ENum, api.EText, api.EName, api.SBreak, api.SNext, api.DVar, api.DArray:
		return kids == 0
	case api.EUn, api.SExpr, api.SRet:
		return kids == 1
	case api.EIndex, api.EBin, api.SSet, api.SWhile:
		return kids == 2
	case api.SIf:
		return kids == 2 || kids == 3
	case api.SVar:
		return kids <= 1
	case api.DFun:
		return kids >= 1
	case api.ECall, api.SBlock, api.DAll:
		return true
	}
	return false
}

// printer puts a tree's text together.
type printer struct {
	tree api.Source
	text strings.Builder
}

// say tells tokens.
func (p *printer) say(tokens ...string) {
	for _, s := range tokens {
		p.text.WriteString(s)
		if s == ";" || s == "{" || s == "}" {
			p.text.WriteByte('\n')
		} else {
			p.text.WriteByte(' ')
		}
	}
}

// list tells nodes, each in its way, with a sign between if there is one.
func (p *printer) list(kids []int, sign string, tell func(i int)) {
	for k, i := range kids {
		if k > 0 && sign != "" {
			p.say(sign)
		}
		tell(i)
	}
}

// node tells any node.
func (p *printer) node(i int) {
	n := p.tree[i]
	if n.Kind < api.SExpr {
		p.expression(n)
		return
	}
	switch n.Kind {
	case api.DVar:
		p.say("int", n.Text, ";")
	case api.DArray:
		p.say(elements(n.M), n.Text, "[", strconv.FormatInt(n.N, 10), "]", ";")
	case api.DFun:
		last := len(n.Kids) - 1
		p.say("int", n.Text, "(")
		p.list(n.Kids[:last], ",", p.param)
		p.say(")")
		p.node(n.Kids[last])
	case api.DAll:
		p.list(n.Kids, "", p.node)
	default:
		p.statement(i, n)
	}
}

// elements is the word for an array's elements.
func elements(kind int) string {
	if kind == api.TypeStr {
		return "char"
	}
	return "int"
}

// param tells a variable's type and name.
func (p *printer) param(i int) {
	n := p.tree[i]
	p.say(elements(n.M))
	if n.M != api.TypeInt {
		p.say("*")
	}
	p.say(n.Text)
}

func (p *printer) statement(i int, n api.Node) {
	switch n.Kind {
	case api.SBlock:
		p.say("{")
		p.list(n.Kids, "", p.node)
		p.say("}")
		return
	case api.SIf, api.SWhile:
		p.branch(n)
		return
	case api.SVar:
		p.param(i)
		if len(n.Kids) > 0 {
			p.say("=")
			p.node(n.Kids[0])
		}
	case api.SRet:
		p.say("return")
		p.node(n.Kids[0])
	case api.SBreak:
		p.say("break")
	case api.SNext:
		p.say("continue")
	default:
		p.list(n.Kids, "=", p.node)
	}
	p.say(";")
}

func (p *printer) branch(n api.Node) {
	word := "while"
	if n.Kind == api.SIf {
		word = "if"
	}
	p.say(word, "(")
	p.node(n.Kids[0])
	p.say(")")
	p.list(n.Kids[1:], "else", p.node)
}

func (p *printer) expression(n api.Node) {
	switch n.Kind {
	case api.ENum:
		p.say(strconv.FormatInt(n.N, 10))
	case api.EText:
		p.say("\"" + strings.NewReplacer("\n", `\n`, "\t", `\t`, `\`, `\\`, `"`, `\"`).Replace(n.Text) + "\"")
	case api.EName:
		p.say(n.Text)
	case api.ECall:
		p.say(n.Text, "(")
		p.list(n.Kids, ",", p.node)
		p.say(")")
	case api.EIndex:
		kind := p.tree[n.Kids[0]].Kind
		p.inBrackets(n.Kids[0], kind == api.EUn || kind == api.EBin)
		p.say("[")
		p.node(n.Kids[1])
		p.say("]")
	case api.EUn:
		p.say(markOf(n.N))
		p.inBrackets(n.Kids[0], p.tree[n.Kids[0]].Kind == api.EBin)
	case api.EBin:
		level := Level(int(n.N))
		p.inBrackets(n.Kids[0], p.level(n.Kids[0]) < level)
		p.say(markOf(n.N))
		p.inBrackets(n.Kids[1], p.level(n.Kids[1]) <= level)
	}
}

// markOf is an operator's mark; one of no operator makes a text that is none.
func markOf(op int64) string {
	if op < 1 || op >= int64(len(marks)) {
		return "?"
	}
	return marks[op]
}

// level is how much a node binds: what is no EBin more than all of these.
func (p *printer) level(i int) int {
	if n := p.tree[i]; n.Kind == api.EBin {
		return Level(int(n.N))
	}
	return levels[api.OpMul] + 1
}

// inBrackets tells a node, in brackets if it needs them.
func (p *printer) inBrackets(i int, needs bool) {
	if !needs {
		p.node(i)
		return
	}
	p.say("(")
	p.node(i)
	p.say(")")
}
