package front

import (
	"fmt"
	"math/rand"
	"strings"
	"testing"

	"binnacle/api"
)

// shape tells a tree's nodes in short: kind, place, number, kind of type, text, Kids.
func shape(t api.Source) string {
	var out []string
	for _, n := range t {
		s := fmt.Sprintf("%d@%d", n.Kind, n.At)
		if n.N != 0 {
			s += fmt.Sprintf(" n%d", n.N)
		}
		if n.M != 0 {
			s += fmt.Sprintf(" m%d", n.M)
		}
		if n.Text != "" {
			s += fmt.Sprintf(" %q", n.Text)
		}
		if len(n.Kids) > 0 {
			s += fmt.Sprint(" ", n.Kids)
		}
		out = append(out, s)
	}
	return strings.Join(out, "; ")
}

func TestTrees(t *testing.T) { // P17.1
	for s, want := range map[string]string{
		"":                              "23@0",
		"  // nothing\n":                "23@0",
		" int x;":                       `20@1 m1 "x"; 23@0 [0]`,
		"int x[3];char yy [0] ;":        `21@0 n3 m3 "x"; 21@9 m2 "yy"; 23@0 [0 1]`,
		"int f(){}":                     `17@7; 22@0 "f" [0]; 23@0 [1]`,
		"int f(int a,int*b,char * c){}": `18@6 m1 "a"; 18@12 m3 "b"; 18@18 m2 "c"; 17@27; 22@0 m3 "f" [0 1 2 3]; 23@0 [4]`,
		"int f(int a){return a+1*2;}":   `18@6 m1 "a"; 3@20 "a"; 1@22 n1; 1@24 n2; 7@22 n4 [2 3]; 7@20 n7 [1 4]; 14@13 [5]; 17@12 [6]; 22@0 m1 "f" [0 7]; 23@0 [8]`,
		"int f(){ (a)[1] = - b ; }":     `3@10 "a"; 1@13 n1; 5@10 [0 1]; 3@20 "b"; 6@18 n1 [3]; 11@10 [2 4]; 17@7 [5]; 22@0 "f" [6]; 23@0 [7]`,
		"int f(){ (a+1); }":             `3@10 "a"; 1@12 n1; 7@10 n7 [0 1]; 10@9 [2]; 17@7 [3]; 22@0 "f" [4]; 23@0 [5]`,
		"int f(){if(1)break;else while(2)continue;}": `1@11 n1; 15@13; 1@30 n2; 16@32; 13@24 [2 3]; 12@8 [0 1 4]; 17@7 [5]; 22@0 "f" [6]; 23@0 [7]`,
		"int f(){if(1)if(2){}else g(\"a\\n\",'x');}": `1@11 n1; 1@16 n2; 17@18; 2@27 "a\n"; 1@33 n120; 4@25 "g" [3 4]; 10@25 [5]; 12@13 [1 2 6]; 12@8 [0 7]; 17@7 [8]; 22@0 "f" [9]; 23@0 [10]`,
		"int f(){int a;char*b=\"\";int *c=a[1][2];}": `18@8 m1 "a"; 2@21; 18@14 m2 "b" [1]; 3@31 "a"; 1@33 n1; 5@31 [3 4]; 1@36 n2; 5@31 [5 6]; 18@24 m3 "c" [7]; 17@7 [0 2 8]; 22@0 "f" [9]; 23@0 [10]`,
	} {
		got, e, at := Parse(s)
		if e != api.OK || at != 0 || shape(got) != want {
			t.Errorf("%s: %d %d\n%s\n%s", s, e, at, shape(got), want)
		}
	}
}

// expr is the tree of an expression, as text with all brackets.
func expr(t api.Source, i int) string {
	n := t[i]
	switch n.Kind {
	case api.ENum:
		return fmt.Sprint(n.N)
	case api.EName:
		return n.Text
	case api.EUn:
		return marks[n.N] + expr(t, n.Kids[0])
	case api.EBin:
		return "(" + expr(t, n.Kids[0]) + marks[n.N] + expr(t, n.Kids[1]) + ")"
	case api.EIndex:
		return "{" + expr(t, n.Kids[0]) + "}[" + expr(t, n.Kids[1]) + "]"
	}
	return "?"
}

func TestLevels(t *testing.T) { // P17.1, P17.2: the higher level binds more, of one from the left
	rows := [][]string{{"||"}, {"&&"}, {"|"}, {"^"}, {"&"}, {"==", "!="}, {"<", "<=", ">", ">="}, {"<<", ">>"}, {"+", "-"}, {"*", "/", "%"}}
	for i, row := range rows {
		for _, a := range row {
			op := 0
			for o := api.OpMul; o <= api.OpAny; o++ {
				if marks[o] == a {
					op = o
				}
			}
			if Level(op) != i+1 {
				t.Error(a, Level(op))
			}
			for j, other := range rows {
				for _, b := range other {
					s := "int f(){a" + a + "b" + b + "c;}"
					tree, e, _ := Parse(s)
					want := "((a" + a + "b)" + b + "c)"
					if j > i {
						want = "(a" + a + "(b" + b + "c))"
					}
					if e != api.OK || expr(tree, 4) != want {
						t.Error(s, e)
					}
				}
			}
		}
	}
	for _, op := range []int{-1, 0, 1, 2, 3, 22, 1 << 60, -1 << 63} {
		if Level(op) != 0 {
			t.Error(op)
		}
	}
	for s, want := range map[string]string{"-a[1]": "-{a}[1]", "(-a)[1]": "{-a}[1]", "-a*b": "(-a*b)", "-(a*b)": "-(a*b)", "!~-a": "!~-a", "a-(b-c)-d": "((a-(b-c))-d)", "((a))": "a", "a<<b>>c+1": "((a<<b)>>(c+1))", "a[b[c]]": "{a}[{b}[c]]"} {
		tree, e, _ := Parse("int f(){" + s + ";}")
		if e != api.OK || expr(tree, len(tree)-5) != want {
			t.Error(s, e, shape(tree))
		}
	}
}

func TestTokens(t *testing.T) { // chapter 17's text
	num := func(s string) (int64, api.Errno, int) {
		tree, e, at := Parse("int f(){" + s + ";}")
		if e != api.OK {
			return 0, e, at
		}
		return tree[0].N, e, at
	}
	for s, v := range map[string]int64{"0": 0, "7": 7, "9223372036854775807": 1<<63 - 1, "'a'": 97, "' '": 32, "'~'": 126, `'"'`: 34, `'\"'`: 34, `'\''`: 39, `'\\'`: 92, `'\n'`: 10, `'\t'`: 9, `'\0'`: 0} {
		if n, e, _ := num(s); n != v || e != api.OK {
			t.Error(s, n, e)
		}
	}
	for _, s := range []string{"00", "01", "9223372036854775808", "99999999999999999999999", "'", "''", "'ab'", "'a", `'\'`, `'\x'`, "'\n'", "'\x7f'", "'\xff'", `'\`, "'''"} {
		if _, e, at := num(s); e != api.ErrSyntax || at != 8 {
			t.Error(s, e, at)
		}
	}
	str := func(s string) (string, api.Errno, int) {
		tree, e, at := Parse("int f(){" + s + ";}")
		if e != api.OK {
			return "", e, at
		}
		return tree[0].Text, e, at
	}
	long := strings.Repeat("x", 100)
	for s, v := range map[string]string{`""`: "", `"it's"`: "it's", `"\n\t\\\'\""`: "\n\t\\'\"", `" ~"`: " ~", `"` + long + `"`: long, `"` + strings.Repeat(`\n`, 100) + `"`: strings.Repeat("\n", 100), `"//"`: "//"} {
		if got, e, _ := str(s); got != v || e != api.OK {
			t.Errorf("%s: %q %d", s, got, e)
		}
	}
	for _, s := range []string{`"`, `"abc`, "\"a\nb\"", `"\0"`, `"\x"`, "\"\x7f\"", `"` + long + `x"`, `"\"`, `"\`, "\"\t\""} {
		if _, e, at := str(s); e != api.ErrSyntax || at != 8 {
			t.Errorf("%q: %d %d", s, e, at)
		}
	}
	for _, s := range []string{"int x//\n;", "int\tx\n\n ;", "int x;//", "int//*\n x;", "int _a9Z;", "int " + strings.Repeat("n", 14) + ";", "int intx;", "int iff[7];"} {
		if _, e, at := Parse(s); e != api.OK {
			t.Errorf("%q: %d %d", s, e, at)
		}
	}
	for s, at := range map[string]int{"int x\r;": 5, "int $;": 4, "int @": 4, "int x; #": 7, "int " + strings.Repeat("n", 15) + ";": 4, "int \x00": 4, "int \xc3\xa9;": 4, "int x;\f": 6, "int x.y;": 5, "int `": 4, "int x;\\": 6} {
		if _, e, got := Parse(s); e != api.ErrSyntax || got != at {
			t.Errorf("%q: %d %d", s, e, got)
		}
	}
}

func TestSyntax(t *testing.T) { // P17.1: the first token that may not stand there
	f := func(s string) string { return "int f(){" + s + "}" }
	for s, at := range map[string]int{
		"int": 3, "int ": 4, "int // x": 8, "x": 0, "int 5": 4, "int x": 5, "int x,": 5, "int x=": 5, "char x;": 6, "char x(": 6, "char *x": 5, "int *x": 4, "int int": 4, "int if;": 4,
		"int x[": 6, "int x[]": 6, "int x[y]": 6, "int x[1": 7, "int x[1;": 7, "int x[1]": 8, "int x[1]=": 8, "int x['a'];,": 11,
		"int f(": 6, "int f(,": 6, "int f(a": 6, "int f(int)": 9, "int f(int a": 11, "int f(int a,)": 12, "int f(char a)": 11, "int f(char*)": 11, "int f(int**a)": 10, "int f(int a int b)": 12, "int f(int a[])": 11, "int f();": 7, "int f()": 7, "int f(){": 8, "int f(){}}": 9, "int f(){};": 9, "int f(int a=1)": 11,
		f("1=2;"): 9, f("a=b=c;"): 11, f("-a=1;"): 10, f("a+b=1;"): 11, f("f()=1;"): 11, f("\"a\"=1;"): 11, f("a"): 9, f("a b;"): 10, f(";"): 8, f("a;;"): 10, f("return;"): 14, f("return 1"): 16, f("break 1;"): 14, f("continue"): 16,
		f("if 1"): 11, f("if(1"): 12, f("if()"): 11, f("if(1)"): 13, f("if(1)else"): 13, f("else"): 8, f("if(1){}else"): 19, f("if(1);"): 13, f("while(1)"): 16, f("while"): 13, f("while(a=1)"): 15,
		f("int;"): 11, f("int a"): 13, f("int a,b;"): 13, f("char a;"): 13, f("int a[3];"): 13, f("int a=;"): 14, f("int *a=1,"): 16, f("int a()"): 13,
		f("a+;"): 10, f("a+*b;"): 10, f("(a;"): 10, f("(;"): 9, f("();"): 9, f("a);"): 9, f("a[;"): 10, f("a[1;"): 11, f("a[];"): 10, f("a[1,2]"): 11, f("g(;"): 10, f("g(a;"): 11, f("g(a,);"): 12, f("g(,a);"): 10, f("g(a b)"): 12, f("1(2);"): 9, f("a(1)(2);"): 12, f("!;"): 9, f("a!b;"): 9, f("a~b;"): 9, f("12ab;"): 10, f("{"): 10, f("{}{}}"): 13, f("int f(){}"): 13, f("a<=>b;"): 11, f("a===b;"): 11, f("a&&&b;"): 11, f("a&&&&b;"): 11, f("\"a\"\"b\";"): 11,
	} {
		tree, e, got := Parse(s)
		if tree != nil || e != api.ErrSyntax || got != at {
			t.Errorf("%q: %d %d, not %d", s, e, got, at)
		}
	}
	for _, s := range []string{f("a&&-b;"), f("a&b&&c;"), f("a- -b;"), f("a--b;"), f("a<-b;"), f("a=!b;"), f("\"a\"[1];"), f("1[2];"), f("g()[1]=2;"), f("int a;int*b;char*c;"), f("{}{{}}"), f("if(1){}else{}"), f("'a'=='b';"), f("(a)=1;"), f("((a))[1]=1;")} {
		if _, e, at := Parse(s); e != api.OK {
			t.Errorf("%q: %d %d", s, e, at)
		}
	}
}

func TestMaxSource(t *testing.T) { // P17.1
	s := "int x;" + strings.Repeat(" ", 8186)
	if _, e, _ := Parse(s); e != api.OK {
		t.Error(e)
	}
	for _, s := range []string{s + " ", "$" + s, strings.Repeat("x", 100000)} {
		if tree, e, at := Parse(s); tree != nil || e != api.ErrMany || at != 0 {
			t.Error(e, at)
		}
	}
}

// nested is how often something is repeated that begins statements or operands: where in it, and whether they go on within.
type nested struct {
	open, end string
	begins    []int
	goes      []bool
}

func TestMaxNest(t *testing.T) { // P17.1
	rep := strings.Repeat
	for _, c := range []nested{
		{"{", "}", []int{0}, []bool{true}},
		{"if(1)", "", []int{0, 3}, []bool{true, false}},
		{"while(1)", "", []int{0, 6}, []bool{true, false}},
		{"if(1){}else ", "", []int{0, 3, 5}, []bool{true, false, false}},
		{"(", ")", []int{0}, []bool{true}},
		{"-", "", []int{0}, []bool{true}},
		{"a[", "]", []int{0}, []bool{true}},
		{"g(", ")", []int{0}, []bool{true}},
		{"1+(", ")", []int{0, 2}, []bool{false, true}},
		{"g(1,", ")", []int{0, 2}, []bool{true, false}},
		{"!(", ")", []int{0, 1}, []bool{true, true}},
	} {
		for n := range 45 {
			statement := strings.Contains("{iw", c.open[:1])
			inner, open := "x", 1 // within a statement
			if statement {
				inner, open = "{}", 0
			}
			s := "int f(){" + rep(c.open, n) + inner + rep(c.end, n)
			if !statement {
				s += ";"
			}
			place := -1
			for k := 0; k <= n && place < 0; k++ {
				at := 8 + k*len(c.open)
				for i, off := range c.begins {
					if k == n && i > 0 {
						break // the inner one
					}
					if open == 40 {
						place = at + off
						break
					}
					if c.goes[i] {
						open++
					}
				}
			}
			_, e, at := Parse(s + "}")
			if place < 0 && e != api.OK || place >= 0 && (e != api.ErrMany || at != place) {
				t.Errorf("%q, %d times: %d %d, not %d", c.open, n, e, at, place)
			}
		}
	}
	deep := "int f(){" + rep("{", 40)
	for s, want := range map[string]api.Errno{deep + rep("}", 41): api.OK, deep + "}}": api.ErrSyntax, deep + ")": api.ErrMany, deep + "$": api.ErrSyntax, deep: api.ErrMany, deep + "x": api.ErrMany} {
		_, e, at := Parse(s)
		if e != want || want == api.ErrMany && at != 48 {
			t.Errorf("%q: %d %d", s, e, at)
		}
	}
}

func TestMaxNodes(t *testing.T) { // P17.1: the token behind the last one of the node that is one more
	head := "int f(){" + strings.Repeat("a[1][1];", 681) + strings.Repeat("{}", 8) // 681 times 6 nodes, and 8
	for _, c := range []struct {
		s  string
		e  api.Errno
		at int
	}{
		{"a;b;", api.ErrMany, 3}, {"a[1];", api.ErrMany, 4}, {"a+b;", api.ErrMany, 3}, {"a b;", api.ErrSyntax, 2}, {"a b$;", api.ErrSyntax, 2}, {"a+b$;", api.ErrSyntax, 3}, {"a+b", api.ErrMany, 3}, {"a+b)", api.ErrMany, 3},
		{"break;break;break;", api.ErrMany, 18}, {"break;break;break", api.ErrSyntax, 17}, {"break;break;int x;{}", api.ErrMany, 18}, {"{}{}{}", api.ErrMany, 6}, {"{}{}a", api.ErrMany, 5}, {"{}{}'a'", api.ErrMany, 7}, {"{}{}\"a\" ;", api.ErrMany, 8}, {"{}a[1]", api.ErrMany, 5}, {"{}-a", api.ErrMany, 4}, {"{}g(1", api.ErrSyntax, 5}, {"{}g(1)", api.ErrMany, 6}, {"{}int x=1;", api.ErrMany, 10}, {"{}return 1;", api.ErrMany, 11},
		{"}", api.ErrMany, 1}, {"} int x;", api.ErrMany, 8}, {"}$", api.ErrSyntax, 1},
	} {
		tree, e, at := Parse(head + c.s)
		if tree != nil || e != c.e || at != len(head)+c.at {
			t.Errorf("%s: %d %d, not %d %d", c.s, e, at-len(head), c.e, c.at)
		}
	}
	head = head[:len(head)-2] // one less: with the block, the function and the whole 4096
	if tree, e, at := Parse(head + "}"); e != api.OK || len(tree) != 4096 {
		t.Error(e, at, len(tree))
	}
	if _, e, at := Parse(head + "}int x;"); e != api.ErrMany || at != len(head)+7 {
		t.Error(e, at)
	}
}

// grow makes random trees.
type grow struct {
	r *rand.Rand
	t api.Source
}

func (g *grow) add(n api.Node) int {
	n.At = g.r.Intn(100)
	g.t = append(g.t, n)
	return len(g.t) - 1
}

func (g *grow) name() string {
	return []string{"a", "b_1", "Zz", "elsewhere", "_"}[g.r.Intn(5)]
}

func (g *grow) expr(deep int) int {
	kind := g.r.Intn(7)
	if deep == 0 {
		kind = g.r.Intn(3)
	}
	switch kind {
	case 0:
		return g.add(api.Node{Kind: api.ENum, N: g.r.Int63() >> g.r.Intn(63)})
	case 1:
		return g.add(api.Node{Kind: api.EText, Text: []string{"", "a\"b", "\\n\n\t'", strings.Repeat("~", 100)}[g.r.Intn(4)]})
	case 2:
		return g.add(api.Node{Kind: api.EName, Text: g.name()})
	case 3:
		var kids []int
		for range g.r.Intn(3) {
			kids = append(kids, g.expr(deep-1))
		}
		return g.add(api.Node{Kind: api.ECall, Text: g.name(), Kids: kids})
	case 4:
		a := g.expr(deep - 1)
		return g.add(api.Node{Kind: api.EIndex, Kids: []int{a, g.expr(deep - 1)}})
	case 5:
		return g.add(api.Node{Kind: api.EUn, N: int64(1 + g.r.Intn(3)), Kids: []int{g.expr(deep - 1)}})
	}
	a := g.expr(deep - 1)
	return g.add(api.Node{Kind: api.EBin, N: int64(4 + g.r.Intn(18)), Kids: []int{a, g.expr(deep - 1)}})
}

func (g *grow) block(deep int) int {
	var kids []int
	for range g.r.Intn(4) {
		kids = append(kids, g.stmt(deep))
	}
	return g.add(api.Node{Kind: api.SBlock, Kids: kids})
}

func (g *grow) stmt(deep int) int {
	kind := g.r.Intn(10)
	if deep == 0 {
		kind = g.r.Intn(6)
	}
	switch kind {
	case 0:
		return g.add(api.Node{Kind: api.SBreak})
	case 1:
		return g.add(api.Node{Kind: api.SNext})
	case 2:
		return g.add(api.Node{Kind: api.SRet, Kids: []int{g.expr(3)}})
	case 3:
		return g.add(api.Node{Kind: api.SExpr, Kids: []int{g.expr(4)}})
	case 4:
		n := api.Node{Kind: api.SVar, Text: g.name(), M: 1 + g.r.Intn(3)}
		if g.r.Intn(2) == 0 {
			n.Kids = []int{g.expr(2)}
		}
		return g.add(n)
	case 5:
		a := g.expr(2) // perhaps neither a name nor an index
		return g.add(api.Node{Kind: api.SSet, Kids: []int{a, g.expr(2)}})
	case 6:
		c := g.expr(2)
		return g.add(api.Node{Kind: api.SWhile, Kids: []int{c, g.stmt(deep - 1)}})
	case 7:
		return g.block(deep - 1)
	}
	kids := []int{g.expr(2)}
	kids = append(kids, g.stmt(deep-1))
	if g.r.Intn(2) == 0 {
		kids = append(kids, g.stmt(deep-1))
	}
	return g.add(api.Node{Kind: api.SIf, Kids: kids})
}

func (g *grow) all() api.Source {
	var kids []int
	for range g.r.Intn(4) {
		switch g.r.Intn(3) {
		case 0:
			kids = append(kids, g.add(api.Node{Kind: api.DVar, Text: g.name(), M: 1}))
		case 1:
			kids = append(kids, g.add(api.Node{Kind: api.DArray, Text: g.name(), M: 2 + g.r.Intn(2), N: int64(g.r.Intn(1000))}))
		default:
			var own []int
			for range g.r.Intn(3) {
				own = append(own, g.add(api.Node{Kind: api.SVar, Text: g.name(), M: 1 + g.r.Intn(3)}))
			}
			m := len(own)
			own = append(own, g.block(3))
			kids = append(kids, g.add(api.Node{Kind: api.DFun, Text: g.name(), M: m, Kids: own}))
		}
	}
	g.add(api.Node{Kind: api.DAll, Kids: kids})
	return g.t
}

// loose tells whether the if that an else behind a statement would belong to is within it.
func loose(t api.Source, i int) bool {
	n := t[i]
	switch n.Kind {
	case api.SIf:
		return len(n.Kids) == 2 || loose(t, n.Kids[2])
	case api.SWhile:
		return loose(t, n.Kids[1])
	}
	return false
}

// sayable tells whether there is a text of a random tree.
func sayable(t api.Source) bool {
	for _, n := range t {
		if n.Kind == api.SIf && len(n.Kids) == 3 && loose(t, n.Kids[1]) {
			return false
		}
		if n.Kind == api.SSet && t[n.Kids[0]].Kind != api.EName && t[n.Kids[0]].Kind != api.EIndex {
			return false
		}
	}
	return true
}

func TestPrintRandom(t *testing.T) { // P17.2, P17.3
	said := 0
	for seed := range int64(4000) {
		g := &grow{r: rand.New(rand.NewSource(seed))}
		tree := g.all()
		before := shape(tree)
		s, e := Print(tree)
		if shape(tree) != before {
			t.Fatal("the tree changed")
		}
		if !sayable(tree) {
			if s != "" || e != api.ErrForm {
				t.Fatal(seed, e, s)
			}
			continue
		}
		if e != api.OK {
			if e != api.ErrMany || s != "" {
				t.Fatal(seed, e, shape(tree))
			}
			continue
		}
		said++
		back, e, at := Parse(s)
		if e != api.OK || !same(back, tree) {
			t.Fatal(seed, e, at, s)
		}
		if again, _ := Print(back); again != s {
			t.Fatal(seed, again, s)
		}
	}
	if said < 1000 {
		t.Error(said)
	}
}

func TestPrint(t *testing.T) { // P17.2
	for s, want := range map[string]string{
		"":                            "",
		"int f(int a){return a+1*2;}": "int f ( int a ) {\nreturn a + 1 * 2 ;\n}\n",
		"int x[3];char y[0];int z;":   "int x [ 3 ] ;\nchar y [ 0 ] ;\nint z ;\n",
		"int f(int*a,char*b){int c;int*d=0;if((1))break;else while('a'){continue;}(a)[1]=\"a\\n\\t\\\\\\\"'\";g(1,(2));}":      "int f ( int * a , char * b ) {\nint c ;\nint * d = 0 ;\nif ( 1 ) break ;\nelse while ( 97 ) {\ncontinue ;\n}\na [ 1 ] = \"a\\n\\t\\\\\\\"'\" ;\ng ( 1 , 2 ) ;\n}\n",
		"int f(){-(a+b);-(-a);(-a)[1];(a+b)[1];a[1][2];f()[1];(a+b)*c;a+(b*c);a-(b-c);(a-b)-c;a*(b+c);(a)||(b&&c);(a||b)&&c;}": "int f ( ) {\n- ( a + b ) ;\n- - a ;\n( - a ) [ 1 ] ;\n( a + b ) [ 1 ] ;\na [ 1 ] [ 2 ] ;\nf ( ) [ 1 ] ;\n( a + b ) * c ;\na + b * c ;\na - ( b - c ) ;\na - b - c ;\na * ( b + c ) ;\na || b && c ;\n( a || b ) && c ;\n}\n",
	} {
		tree, e, _ := Parse(s)
		if e != api.OK {
			t.Fatal(s)
		}
		if got, e := Print(tree); got != want || e != api.OK {
			t.Errorf("%d\n%s\n%s", e, got, want)
		}
	}
}

func TestPrintNot(t *testing.T) { // P17.2: there is no text of such a tree
	tree, _, _ := Parse("int x[3];int f(int a){if(a)x[0]=-1+g(\"s\");return 7;}")
	copyOf := func() api.Source {
		c, _, _ := Parse("int x[3];int f(int a){if(a)x[0]=-1+g(\"s\");return 7;}")
		return c
	}
	for i, n := range tree {
		for k, change := range []func(n *api.Node){
			func(n *api.Node) { n.Kind = 99 },
			func(n *api.Node) { n.Kind = -1 },
			func(n *api.Node) { n.Kind = api.SExpr - n.Kind%2 },
			func(n *api.Node) { n.Text += ";" },
			func(n *api.Node) { n.Text += strings.Repeat("x", 200) },
			func(n *api.Node) { n.Text += "\x00" },
			func(n *api.Node) { n.M += 17 },
			func(n *api.Node) { n.N = -5 },
			func(n *api.Node) { n.N = -1 << 63 },
			func(n *api.Node) { n.Kids = append(n.Kids, 0) },
			func(n *api.Node) { n.Kids = append(n.Kids, -1) },
			func(n *api.Node) { n.Kids = append(n.Kids, i) },
			func(n *api.Node) { n.Kids = append(n.Kids, 1<<60) },
			func(n *api.Node) { n.Kids = append([]int{0}, n.Kids...) },
		} {
			if n.Kind == api.EText && k == 3 || n.Kind == api.SRet && k == 2 {
				continue // there is one
			}
			c := copyOf()
			change(&c[i])
			if s, e := Print(c); s != "" || e != api.ErrForm {
				t.Error(i, n.Kind, k, e)
			}
		}
		c := copyOf()
		if s, e := Print(append(c[:i], c[i+1:]...)); i > 0 && (s != "" || e != api.ErrForm) {
			t.Error("without", i, e)
		}
		if s, e := Print(copyOf()[:i]); s != "" || e != api.ErrForm {
			t.Error("the first", i, e)
		}
	}
}

func TestPrintNone(t *testing.T) { // P17.2: nor of these
	for i, c := range []api.Source{
		nil, {}, {{Kind: api.ENum}}, {{Kind: api.DAll, Text: "x"}}, {{Kind: api.DAll, N: 1}}, {{Kind: api.DAll, M: 1}},
		{{Kind: api.DVar, Text: "x"}, {Kind: api.DAll, Kids: []int{0}}},
		{{Kind: api.DVar, Text: "int", M: 1}, {Kind: api.DAll, Kids: []int{0}}},
		{{Kind: api.DVar, Text: "1", M: 1}, {Kind: api.DAll, Kids: []int{0}}},
		{{Kind: api.DVar, M: 1}, {Kind: api.DAll, Kids: []int{0}}},
		{{Kind: api.DVar, Text: "x", M: 1}, {Kind: api.DAll}},
		{{Kind: api.DVar, Text: "x", M: 1}, {Kind: api.DAll, Kids: []int{0, 0}}},
		{{Kind: api.DAll, Kids: []int{1}}, {Kind: api.DVar, Text: "x", M: 1}},
		{{Kind: api.DVar, Text: "x", M: 1}, {Kind: api.DVar, Text: "y", M: 1}, {Kind: api.DAll, Kids: []int{1, 0}}},
		{{Kind: api.DArray, Text: "x", M: 1}, {Kind: api.DAll, Kids: []int{0}}},
		{{Kind: api.DAll}, {Kind: api.DAll, Kids: []int{0}}},
	} {
		if s, e := Print(c); s != "" || e != api.ErrForm {
			t.Error(i, s, e)
		}
	}
}

func TestPrintNodes(t *testing.T) { // P17.2: MaxNodes
	many := api.Source{}
	var kids []int
	for i := range 4096 {
		many = append(many, api.Node{Kind: api.DVar, Text: "x", M: 1})
		kids = append(kids, i)
	}
	if _, e := Print(append(many[:4096:4096], api.Node{Kind: api.DAll, Kids: kids})); e != api.ErrForm {
		t.Error("4097 nodes", e)
	}
	if s, e := Print(append(many[:4095:4095], api.Node{Kind: api.DAll, Kids: kids[:4095]})); s != "" || e != api.ErrMany {
		t.Error("4096 nodes", e)
	}
}

// unary is a tree of so many operators, one in the other.
func unary(n int) api.Source {
	t := api.Source{{Kind: api.EName, Text: "x"}}
	for i := range n {
		t = append(t, api.Node{Kind: api.EUn, N: 1 + int64(i%3), Kids: []int{i}})
	}
	for _, x := range []api.Node{{Kind: api.SExpr}, {Kind: api.SBlock}, {Kind: api.DFun, Text: "f"}, {Kind: api.DAll}} {
		x.Kids = []int{len(t) - 1}
		t = append(t, x)
	}
	return t
}

func TestPrintDeep(t *testing.T) { // P17.2: more than MaxNest in one another have no text
	for n, want := range map[int]api.Errno{38: api.OK, 39: api.ErrForm, 4000: api.ErrForm} {
		if _, e := Print(unary(n)); e != want {
			t.Error(n, e)
		}
	}
}

func TestPrintMany(t *testing.T) { // P17.2: MaxSource bytes
	for n := 1; n < 420; n += 3 {
		s := "int f(){" + strings.Repeat("\"\";", 100) + strings.Repeat("a=1;", n) + "}"
		tree, e, _ := Parse(s)
		if e != api.OK {
			t.Fatal(e)
		}
		for k := range tree {
			if tree[k].Kind == api.EText {
				tree[k].Text = strings.Repeat("x", 50)
			}
		}
		size := len("int f ( ) {\n") + 100*55 + 8*n + 2
		got, e := Print(tree)
		if size <= 8192 && (e != api.OK || len(got) != size) || size > 8192 && (e != api.ErrMany || got != "") {
			t.Error(n, size, e, len(got))
		}
	}
}

func TestNewMemory(t *testing.T) { // R3
	a, _, _ := Parse("int f(int a){{}{}{}return g(1,2,3,4,5);}")
	for i := range a {
		for k := len(a[i].Kids); k < cap(a[i].Kids); k++ {
			a[i].Kids[:k+1][k] = -1 // the spare room
		}
	}
	if got, _, _ := Parse("int f(int a){{}{}{}return g(1,2,3,4,5);}"); !same(a, got) {
		t.Error("lists have room in common")
	}
}
