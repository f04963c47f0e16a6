package sort

import (
	"fmt"
	"slices"
	"strings"
	"testing"

	"binnacle/api"
	"binnacle/front"
)

func parse(t *testing.T, s string) api.Source {
	t.Helper()
	tree, e, at := front.Parse(s)
	if e != api.OK {
		t.Fatal(s, e, at)
	}
	return tree
}

// node is the k-th node of a kind.
func node(t *testing.T, tree api.Source, kind, k int) int {
	t.Helper()
	for i, n := range tree {
		if n.Kind == kind {
			if k == 0 {
				return i
			}
			k--
		}
	}
	t.Fatal("no such node", kind)
	return 0
}

var built = []api.Sym{
	{Kind: 5, Type: 1, N: 1, Node: -1, Name: "put"}, {Kind: 5, Type: 1, N: 0, Node: -1, Name: "get"}, {Kind: 5, Type: 1, N: 1, Node: -1, Name: "exit"}, {Kind: 5, Type: 1, N: 0, Node: -1, Name: "args"}, {Kind: 5, Type: 2, N: 1, Node: -1, Name: "arg"}, {Kind: 5, Type: 1, N: 4, Node: -1, Name: "sys"}, {Kind: 5, Type: 1, N: 1, Node: -1, Name: "adr"},
}

func TestSymbols(t *testing.T) { // chapter 18's words
	tree := parse(t, "int g;char s[3];int f(int a,int*p){char*c;{int b;}}int n[4];int main(){int x=g;}")
	info, e, at := Check(tree)
	if e != api.OK || at != 0 {
		t.Fatal(e, at)
	}
	want := append(slices.Clone(built),
		api.Sym{Kind: api.SymVar, Type: 1, Node: 0, Name: "g"},
		api.Sym{Kind: api.SymArray, Type: 2, N: 3, Node: 1, Name: "s"},
		api.Sym{Kind: api.SymFun, Type: 1, N: 2, Node: 8, Name: "f"},
		api.Sym{Kind: api.SymArray, Type: 3, N: 4, Node: 9, Name: "n"},
		api.Sym{Kind: api.SymFun, Type: 1, N: 0, Node: 13, Name: "main"},
		api.Sym{Kind: api.SymLocal, Type: 1, N: 0, Node: 2, Name: "a"},
		api.Sym{Kind: api.SymLocal, Type: 3, N: 1, Node: 3, Name: "p"},
		api.Sym{Kind: api.SymLocal, Type: 2, N: 2, Node: 4, Name: "c"},
		api.Sym{Kind: api.SymLocal, Type: 1, N: 3, Node: 5, Name: "b"},
		api.Sym{Kind: api.SymLocal, Type: 1, N: 0, Node: 11, Name: "x"})
	if !slices.Equal(info.Syms, want) {
		t.Error(info.Syms)
	}
	if !slices.Equal(info.Of, []int{7, 8, 12, 13, 14, 15, -1, -1, 9, 10, 7, 16, -1, 11, -1}) {
		t.Error(info.Of)
	}
	if !slices.Equal(info.Type, []int{0, 0, 0, 0, 0, 0, 0, 0, 0, 0, 1, 0, 0, 0, 0}) {
		t.Error(info.Type)
	}
}

func TestTypes(t *testing.T) { // chapter 18's words
	head := "int g;char s[3];int n[3];int f(char*a,int*b,int c){}int main(){int i;char*p;int*q;"
	for x, want := range map[string]int{
		"1": 1, `"a"`: 2, "g": 1, "s": 2, "n": 3, "i": 1, "p": 2, "q": 3, "f(s,n,1)": 1, "put(1)": 1, "get()": 1, "exit(1)": 1, "args()": 1, "arg(0)": 2, "sys(1,p,q,2)": 1, "sys(1,2,3,4)": 1, "adr(p)": 1, "adr(q)": 1, "adr(1)": 1, "p[1]": 1, "q[i]": 1, `"a"[0]`: 1, "arg(0)[1]": 1, "-i": 1, "!1": 1, "~g": 1, "1+2": 1, "p+1": 2, "q+i": 3, "s+1+2": 2, `"a"+1`: 2, "(p+1)[2]": 1, "i<g": 1, "1&&2||3": 1, "arg(0)+1": 2, "1-2": 1, "1*2/3%4<<5>>6&7^8|9": 1, "n+g": 3,
	} {
		tree := parse(t, head+x+";}")
		info, e, at := Check(tree)
		i := tree[node(t, tree, api.SExpr, 0)].Kids[0]
		if e != api.OK || at != 0 || info.Type[i] != want {
			t.Error(x, e, at)
		}
	}
}

func TestScopes(t *testing.T) { // chapter 18's words: a name's symbol
	kind := func(s string) int { // of the symbol of the first name x
		tree := parse(t, s)
		info, e, at := Check(tree)
		if e != api.OK {
			t.Error(s, e, at)
			return 0
		}
		for i, n := range tree {
			if (n.Kind == api.EName || n.Kind == api.ECall) && n.Text == "x" {
				return info.Syms[info.Of[i]].Kind
			}
		}
		return -1
	}
	for s, want := range map[string]int{
		"int x;int main(){x;}":                      api.SymVar,
		"int main(){x;}int x;":                      api.SymVar,
		"int main(){x;}int x[2];":                   api.SymArray,
		"int main(){x();}int x(){}":                 api.SymFun,
		"int x;int main(){x;int x;}":                api.SymVar,
		"int x;int main(){int x=x;}":                api.SymVar,
		"int x;int main(){int x;x;}":                api.SymLocal,
		"int x;int main(){if(0){int x;}x;}":         api.SymLocal,
		"int x;int f(int x){}int main(){x;}":        api.SymVar,
		"int f(int x){x;}int main(){}":              api.SymLocal,
		"int f(){int y;}int x;int main(){int y;x;}": api.SymVar,
		"int main(){x();int x;}int x(){}":           api.SymFun,
	} {
		if got := kind(s); got != want {
			t.Error(s, got)
		}
	}
	tree := parse(t, "int main(){int put;put=1;int main;}")
	if _, e, at := Check(tree); e != api.OK {
		t.Error("a variable may have the name of a function", e, at)
	}
}

// TestErrors: each source is wrong at the k-th node of that kind.
func TestErrors(t *testing.T) { // P18.1
	m := "int main(){}"
	f := func(s string) string {
		return "int g;char s[3];int n[3];int h(int a,char*b,int*c){}int main(){" + s + "}"
	}
	vars := func(n int) string {
		out := ""
		for i := range n {
			out += fmt.Sprintf("int v%d;", i)
		}
		return out
	}
	for _, c := range []struct {
		s       string
		e       api.Errno
		kind, k int
	}{
		{"int x;int x;" + m, api.ErrThere, api.DVar, 1}, {"int x;char x[1];" + m, api.ErrThere, api.DArray, 0}, {"int x;int x(){}" + m, api.ErrThere, api.DFun, 0}, {"int put;" + m, api.ErrThere, api.DVar, 0}, {"int sys[0];" + m, api.ErrThere, api.DArray, 0}, {m + m, api.ErrThere, api.DFun, 1}, {"int adr(int a){}" + m, api.ErrThere, api.DFun, 0},
		{"int x[0];" + m, api.ErrMany, api.DArray, 0}, {"int x[513];" + m, api.ErrMany, api.DArray, 0}, {"int x[9223372036854775807];" + m, api.ErrMany, api.DArray, 0},
		{"int f(int a,int b,int c,int d,int e,int f,int g){}" + m, api.ErrMany, api.DFun, 0},
		{"int main(){nix;}int x;int x;", api.ErrThere, api.DVar, 1}, // declarations first
		{f("int a;int a;"), api.ErrThere, api.SVar, 4}, {f("int a;{char*a;}"), api.ErrThere, api.SVar, 4}, {"int f(int a,int a){}" + m, api.ErrThere, api.SVar, 1}, {"int f(int a){int a=\"\";}" + m, api.ErrThere, api.SVar, 1},
		{"int main(){" + vars(25) + "}", api.ErrMany, api.SVar, 24}, {"int main(){" + vars(24) + "int y=\"\";}", api.ErrMany, api.SVar, 24},
		{f("int a=\"\";"), api.ErrType, api.SVar, 3}, {f("char*a=1;"), api.ErrType, api.SVar, 3}, {f("int*a=\"\";"), api.ErrType, api.SVar, 3}, {f("char*a=n;"), api.ErrType, api.SVar, 3}, {f("int*a=s;"), api.ErrType, api.SVar, 3},
		{f("nix;"), api.ErrLink, api.EName, 0}, {f("nix();"), api.ErrLink, api.ECall, 0}, {f("int a=a;"), api.ErrLink, api.EName, 0}, {f("a=1;int a;"), api.ErrLink, api.EName, 0}, {"int f(int a){}int main(){a;}", api.ErrLink, api.EName, 0},
		{f("h;"), api.ErrType, api.EName, 0}, {f("put;"), api.ErrType, api.EName, 0}, {f("main;"), api.ErrType, api.EName, 0}, {f("g();"), api.ErrType, api.ECall, 0}, {f("n();"), api.ErrType, api.ECall, 0}, {f("int put;put(1);"), api.ErrType, api.ECall, 0},
		{f("put();"), api.ErrType, api.ECall, 0}, {f("put(1,2);"), api.ErrType, api.ECall, 0}, {f("get(1);"), api.ErrType, api.ECall, 0}, {f("main(1);"), api.ErrType, api.ECall, 0}, {f("h(1,s);"), api.ErrType, api.ECall, 0}, {f("sys(1,2,3);"), api.ErrType, api.ECall, 0},
		{f("put(s);"), api.ErrType, api.ECall, 0}, {f("exit(n);"), api.ErrType, api.ECall, 0}, {f("arg(\"\");"), api.ErrType, api.ECall, 0}, {f("sys(s,1,1,1);"), api.ErrType, api.ECall, 0}, {f("h(s,s,n);"), api.ErrType, api.ECall, 0}, {f("h(1,n,n);"), api.ErrType, api.ECall, 0}, {f("h(1,s,1);"), api.ErrType, api.ECall, 0},
		{f("1[2];"), api.ErrType, api.EIndex, 0}, {f("g[2];"), api.ErrType, api.EIndex, 0}, {f("s[s];"), api.ErrType, api.EIndex, 0}, {f("n[n];"), api.ErrType, api.EIndex, 0}, {f("s[1][2];"), api.ErrType, api.EIndex, 1},
		{f("-s;"), api.ErrType, api.EUn, 0}, {f("!n;"), api.ErrType, api.EUn, 0}, {f("~\"\";"), api.ErrType, api.EUn, 0},
		{f("1+s;"), api.ErrType, api.EBin, 0}, {f("s+s;"), api.ErrType, api.EBin, 0}, {f("n+s;"), api.ErrType, api.EBin, 0}, {f("s-1;"), api.ErrType, api.EBin, 0}, {f("s==s;"), api.ErrType, api.EBin, 0}, {f("1&&s;"), api.ErrType, api.EBin, 0}, {f("s||1;"), api.ErrType, api.EBin, 0}, {f("1*n;"), api.ErrType, api.EBin, 0},
		{f("s=\"\";"), api.ErrType, api.SSet, 0}, {f("n=n;"), api.ErrType, api.SSet, 0}, {f("g=s;"), api.ErrType, api.SSet, 0}, {f("char*p;p=1;"), api.ErrType, api.SSet, 0}, {f("char*p;p=n;"), api.ErrType, api.SSet, 0}, {f("s[0]=s;"), api.ErrType, api.SSet, 0}, {f("n[0]=n;"), api.ErrType, api.SSet, 0},
		{f("if(s){}"), api.ErrType, api.SIf, 0}, {f("while(n){}"), api.ErrType, api.SWhile, 0}, {f("return s;"), api.ErrType, api.SRet, 0},
		{f("break;"), api.ErrSyntax, api.SBreak, 0}, {f("continue;"), api.ErrSyntax, api.SNext, 0}, {f("while(1){}break;"), api.ErrSyntax, api.SBreak, 0}, {f("if(1)continue;"), api.ErrSyntax, api.SNext, 0},
		{"", api.ErrLink, api.DAll, 0}, {"int f(){}", api.ErrLink, api.DAll, 0}, {"int main(int a){}", api.ErrLink, api.DAll, 0}, {"int main;", api.ErrLink, api.DAll, 0}, {"int main[3];", api.ErrLink, api.DAll, 0},
		{f("break;s=1;"), api.ErrSyntax, api.SBreak, 0}, {f("s=1;break;"), api.ErrType, api.SSet, 0}, {"int f(){nix;}", api.ErrLink, api.EName, 0},
		{f("nix(nix2);"), api.ErrLink, api.EName, 0}, {f("put(1[2]);"), api.ErrType, api.EIndex, 0},
	} {
		tree := parse(t, c.s)
		info, e, at := Check(tree)
		if want := node(t, tree, c.kind, c.k); e != c.e || at != want || info.Syms != nil || info.Of != nil || info.Type != nil {
			t.Errorf("%s: %d at %d, not %d at %d", c.s, e, at, c.e, want)
		}
	}
}

func TestGood(t *testing.T) { // P18.1: the edges that may be
	vars := ""
	for i := range 24 {
		vars += fmt.Sprintf("int v%d;", i)
	}
	for _, s := range []string{
		"int x[1];char y[512];int main(){}",
		"int n[1];int f(int a,char*b,int*c,int d,int e,int f){}int main(){f(1,\"\",n+0,1,2,3);}",
		"int main(){" + vars + "}",
		"int f(int a){a;}int g(int a){a;}int main(){}",
		"int main(){while(1){if(1)break;else{continue;}while(2)break;}}",
		"int main(){main();f();}int f(){f();}",
		"int n[3];char s[3];int main(){int*p=n;char*q=s;p=n;q=s+1;p=p+1;n[0]=1;s[0]=p[1];q[1]=300;\"ab\"[0]=1;arg(0)[1]=2;}",
	} {
		if _, e, at := Check(parse(t, s)); e != api.OK || at != 0 {
			t.Error(s, e, at)
		}
	}
}

func TestForm(t *testing.T) { // P18.1
	for i, tree := range []api.Source{nil, {}, {{Kind: api.ENum}}, {{Kind: api.DAll, N: 1}}, {{Kind: api.DVar, Text: "if", M: 1}, {Kind: api.DAll, Kids: []int{0}}}, {{Kind: api.DAll, Kids: []int{5}}}, {{Kind: api.DAll, Kids: []int{-1}}}, {{Kind: api.DAll, Kids: []int{0}}}} {
		info, e, at := Check(tree)
		if e != api.ErrForm || at != 0 || info.Syms != nil || info.Of != nil || info.Type != nil {
			t.Error(i, e, at)
		}
	}
	// a tree whose text is longer than a source may be is one all the same
	long := parse(t, "int main(){"+strings.Repeat("\"\";", 100)+"}")
	for i := range long {
		if long[i].Kind == api.EText {
			long[i].Text = strings.Repeat("x", 100)
		}
	}
	if _, e := front.Print(long); e != api.ErrMany {
		t.Error(e)
	}
	if _, e, _ := Check(long); e != api.OK {
		t.Error(e)
	}
}

func TestExamples(t *testing.T) {
	tree := parse(t, "int main(){put('a');}")
	info, e, _ := Check(tree)
	if e != api.OK || len(info.Syms) != 8 || !slices.Equal(info.Syms[:7], built) || info.Syms[7].Name != "main" || info.Of[node(t, tree, api.ECall, 0)] != 0 {
		t.Error(info, e)
	}
	for s, want := range map[string]api.Errno{"int main(){x=1;}": api.ErrLink, "char b[3]; int main(){b[0]=b;}": api.ErrType, "int f(){}": api.ErrLink} {
		if _, e, _ := Check(parse(t, s)); e != want {
			t.Error(s, e)
		}
	}
}

// TestSymbolsAreDeclared: no two symbols of one function have one name.
func TestSymbolsAreDeclared(t *testing.T) { // P18.2
	tree := parse(t, "int g;int f(int a,int b){int c=a+g;while(c){int d=b;f(d,c);}}int main(){int a=g;f(a,1);}")
	info, e, _ := Check(tree)
	if e != api.OK {
		t.Fatal(e)
	}
	owner := func(i int) int {
		for ; tree[i].Kind != api.DFun; i++ {
		}
		return i
	}
	met := map[string]int{}
	for _, s := range info.Syms {
		key := s.Name
		if s.Kind == api.SymLocal {
			key = fmt.Sprint(owner(s.Node), s.Name)
		}
		if met[key]++; met[key] > 1 {
			t.Error(key)
		}
	}
	for i, n := range tree {
		if n.Kind == api.EName || n.Kind == api.ECall {
			if s := info.Syms[info.Of[i]]; s.Name != n.Text || s.Kind == api.SymLocal && (s.Node >= i || owner(s.Node) != owner(i)) {
				t.Error(i, s)
			}
		}
	}
}
