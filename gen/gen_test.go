package gen

import (
	"fmt"
	"strings"
	"testing"

	"binnacle/api"
	"binnacle/kern"
	"binnacle/mean"
	"binnacle/word"
)

// run is does of a source.
func run(t *testing.T, s, in string) api.Ran {
	t.Helper()
	return does(t, s, parse(t, s), in)
}

func TestNeed(t *testing.T) { // P20.1
	head := "int g;char s[2];int n[2];int f(int a,int b,int c){}int main(){"
	for x, want := range map[string]int{
		"1;": 1, `"a";`: 1, "g;": 1, "-g;": 1, "1+2;": 2, "1+2+3;": 2, "1+(2+3);": 3, "(1+2)+(3+4);": 3, "n[1];": 2, "n[n[1]];": 3, "n[1+2];": 3,
		"1&&2;": 1, "1&&(2+3);": 2, "(1||2)+3;": 2, "f(1,2,3);": 3, "f(1+(2+3),2,3);": 3, "f(1,2,3+4);": 4, "f(1,1+(2+3),1);": 4, "get();": 1, "put(1);": 1, "put(1+2);": 2, "sys(1,2,3,4);": 4,
		"1+(2+(3+(4+(5+(6+(7+8))))));": 8, "1<(2&&3);": 2, "!(1+2);": 2,
	} {
		tree := parse(t, head+x+"}")
		expr := 0
		for i, n := range tree {
			if n.Kind == api.SExpr {
				expr = n.Kids[0]
			}
			if n.Kind >= api.SExpr && n.Kind != api.SSet && Need(tree, i) != 0 {
				t.Error(x, "a node without a need", i)
			}
		}
		if got := Need(tree, expr); got != want {
			t.Error(x, got, want)
		}
	}
	for x, want := range map[string]int{"g=1+2;": 0, "n[0]=1;": 3, "n[1+2]=1;": 3, "n[1+(2+3)]=0;": 4, "n[0]=1+2;": 4, "n[n[0]]=get();": 3, "(n+1)[0]=1+(2+3);": 5} {
		tree := parse(t, head+x+"}")
		for i, n := range tree {
			if got := Need(tree, i); n.Kind == api.SSet && got != want {
				t.Error(x, got, want)
			}
		}
	}
	tree := parse(t, head+"1;}")
	for _, at := range []int{-1, len(tree), 1 << 60, -1 << 63} {
		if Need(tree, at) != 0 {
			t.Error(at)
		}
	}
	if Need(nil, 0) != 0 || Need(parse(t, "int f(){1;}"), 0) != 0 || Weight(nil) != 0 || Weight(parse(t, "int f(){1;}")) != 0 {
		t.Error("of what is refused")
	}
}

func TestWeight(t *testing.T) { // P20.1
	for s, want := range map[string]int{
		"int main(){}":                 26,
		"int g;int n[3];int main(){}":  26,
		"int main(){1;}":               34,
		`int main(){"";}`:              28,
		"int main(){get();}":           52,
		"int g;int main(){g;-g;}":      26 + 3 + 3 + 2,
		"int n[1];int main(){n[0]+1;}": 26 + 3 + 8 + 4 + 8 + 5,
		"int main(){int a=1;a=2;}":     26 + 8 + 4 + 3 + 8 + 5,
		"int main(){if(1){}while(1){break;continue;}return 1;}": 26 + 8 + 3 + 8 + 1 + 1 + 3 + 8 + 3,
		"int f(int a){}int main(){f(1);}":                       16 + 10 + 4 + 10 + 8 + 26,
	} {
		if got := Weight(parse(t, s)); got != want {
			t.Error(s, got, want)
		}
	}
}

func TestRefused(t *testing.T) { // P20.2
	for s, want := range map[string]api.Errno{"int f(){}": api.ErrLink, "int main(){x;}": api.ErrLink, "int main(){break;}": api.ErrSyntax, "int x;int x;int main(){}": api.ErrThere, "int x[0];int main(){}": api.ErrMany, "int main(){return \"\";}": api.ErrType} {
		if x, e := Compile(parse(t, s)); x != (api.Prog{}) || e != want {
			t.Error(s, e)
		}
	}
	if x, e := Compile(nil); x != (api.Prog{}) || e != api.ErrForm {
		t.Error(e)
	}
	for i, s := range []string{
		"int main(){" + strings.Repeat("put(get()+1234567890123);", 150) + "}",
		"int a[512];int b[100];int main(){}",
		"int main(){" + strings.Repeat(`"`+strings.Repeat("x", 99)+`";`, 11) + "}",
	} {
		if x, e := Compile(parse(t, s)); x != (api.Prog{}) || e != api.ErrMany {
			t.Error(i, e)
		}
	}
}

// rows are sources that come near to what a program may have.
func rows() []string {
	rep := strings.Repeat
	vars, sum := "", "0"
	for i := range 24 {
		vars += fmt.Sprintf("int v%d=%d;", i, i)
		sum += fmt.Sprintf("+v%d", i)
	}
	return []string{
		"int main(){return 9223372036854775807-" + rep("1311768467463790320^", 27) + "1;}",
		"int main(){return get()+" + rep("1311768467463790320*(0-get()%", 1) + "9000000000000000001);}",
		"int main(){" + vars + "put('a');return " + sum + ";}",
		"int f(int a){" + strings.Replace(vars, "int v0=0;", "", 1) + "put('a'+a);if(a)f(a-1);return " + strings.Replace(sum, "+v0", "+a", 1) + ";}int main(){return f(4);}",
		"int g;int f(int a,int b,int c,int d,int e,int f){return a+b*10+c*100+d*1000+e*10000+f*100000;}int main(){g=7;return f(1,g,3,4,g+1,g-1)+f(g,f(1,2,g,f(1,2,3,4,g,6),5,6),3,4,5,g);}",
		"int g;int one(){g=g+1;return g;}int main(){return g+(g+(g+(g+(g+(g+one()*g)))));}",
		"int g;int one(){g=g+1;return g;}int main(){return one()-(one()-(one()-(one()-(one()-(one()-one()*one())))));}",
		"int g;int n[8];int one(){g=g+1;return g;}int main(){n[one()]=n[one()-2]+one()*10;n[g&1]=one();return n[0]+n[1]*100+n[g]*1000;}",
		"int g;char s[8];int f(char*p,int i){p[i]=p[i-1]+1;return p[i];}int main(){s[0]='a';put(f(s,1));put(f(s+1,1));put((s+1)[g+1]);return f(s,f(s,3)-98);}",
		"int big[400];int g;char far[40];int z;int main(){big[399]=5;big[0]=6;far[39]=7;z=8;g=9;int i=399;put(far[39]+48);put((far+i/10)[0]+48);far[i/11]=z;return big[i]+big[i-399]*10+far[36]*100+z*1000+g*10000;}",
		"int a;int main(){while(a<3){a=a+1;if(a==2)continue;put('0'+a);}while(1){a=a+1;if(a>9&&a%2||a==8)break;}return a;}",
		"int main(){int i=0;int n=0;while(i<20){int k;k=k+i;n=n+k;i=i+1;}return n;}",
		"int main(){put('a'+(1<2)+(2<=1)*2+(1>2)*4+(3>=3)*8);int a=get();put('a'+(a<98)+(a<=97)*2+(a>96)*4+(a>=98)*8);put('a'+(a==97)+(a!=97)*2+!a*4+!!a*8);return (a&&2)+(a||0)*2+(0&&a)*4+(!a||a)*8;}",
		"int fib(int n){if(n<2)return n;return fib(n-1)+fib(n-2);}int main(){return fib(10);}",
		"int f(int n){return n&&f(n-1);}int main(){return f(17)+10*!f(3);}",
		"int main(){int a;a=a&&get()||a;a=a||get();a=get()&&a;return a*(get()>'d');}",
		"int main(){char*p=\"abc\";int i;while(p[i]){put(p[i]);i=i+1;}p=p+1;put(p[0]);put(\"xyz\"[i-1]);return p[1]*1000+i;}",
		"int main(){while(1){int c=get();if(c=='e')exit(c);put(c-32);}}",
		"int f(int a,int b){if(a)exit(a*100+b);return b;}int main(){return f(0,2)+f(1,f(0,3))+5;}",
		"int n[4];int f(int*p,int*q){p[0]=q[1]+1;q[2]=p[0]*2;return p[0]+q[2];}int main(){n[1]=5;return f(n+3,n)*10+n[3];}",
		"int main(){return adr(\"ab\")-adr(\"ab\")+(0-5)%3+-7/2+(-8>>1)+(1<<63)/-1;}",
		"int main(){}", "int main(){return 0-1;}", "int main(){exit(0-9223372036854775807-1);}",
		"int f(int n){if(n)return 1+f(n-1);return 0;}int main(){return f(18);}", // 1600 bytes of stack
		"int f(int n){" + strings.Replace(vars, "int v0=0;", "", 1) + "if(n)return f(n-1)+f(n-1)" + strings.TrimPrefix(sum, "0+v0") + ";return n;}int main(){return f(4);}",
		"int a[492];int main(){a[491]=7;a[0]=3;int i=491;return a[i]*10+a[i-491];}", // a room of 4000 bytes
		"char a[1];char b[511];int c[400];char d[128];int main(){d[127]=7;a[0]=3;c[399]=9;return d[get()+30]*10+a[0]+c[get()+301];}",
		"int x;int f(){return x;}int main(){return x*f()+f();}",
		"int main(){int a=1;{int b=2;{int c=a+b;a=c;}}if(a>2)int d=5;return a+d;}",
	}
}

func TestRows(t *testing.T) { // P20.2, P20.3
	for _, s := range rows() {
		if _, e := Compile(parse(t, s)); e == api.OK && !strings.Contains(s, "adr(") { // of that the meaning is another
			run(t, s, "abcdef")
		}
	}
}

func TestFairRows(t *testing.T) { // P20.2: nearly all of them have to be compiled
	n := 0
	for _, s := range rows() {
		if tree := parse(t, s); fair(tree) {
			n++
			if _, e := Compile(tree); e != api.OK {
				t.Error(s, e)
			}
		}
	}
	if n < 20 {
		t.Error(n)
	}
}

// TestHeaviest: what of a kind makes the weight as great as it may be.
func TestHeaviest(t *testing.T) { // P20.2, P20.3
	units := []string{
		"9223372036854775807;", "g=9223372036854775807;", "g=g+6148914691236517205;", "put(1311768467463790320);", "get();", "g=far[g]+1;", "far[g]=g;", "n[g&1]=far[g&1];", "g=last;", "last=g;", "if(g)g=1;else last=g;", "while(g)g=0;", "g=g==last;", "g=g<=last;", "g=g&&last||g;", "g=!g;", "g=-~g;",
		"one(g);", "g=one(g+1)+one(last);", "g=g+(last+(g+(last+one(g))));", "six(g,last,g,last,g,last);", "g=six(one(g),one(last),one(1),one(2),one(3),one(4));", "sys(12,g,last,g);", "g=sys(14,one(g),one(g),g);", "g=\"abc\"[g&1];", "while(1){if(g)continue;break;}", "g=adr(far+g);", "g=args();",
	}
	for _, u := range units {
		best := ""
		for many := 1; many < 200; many++ {
			s := "int far[300];int n[8];int g;int last;int one(int a){return a;}int six(int a,int b,int c,int d,int e,int f){return a-b+c-d+e-f;}int main(){" + strings.Repeat(u, many) + "}"
			if len(s) > api.MaxSource {
				break
			}
			tree := parse(t, s)
			if Weight(tree) > 480 || !fair(tree) {
				break
			}
			best = s
		}
		if best == "" {
			t.Error(u)
			continue
		}
		if _, e := Compile(parse(t, best)); e != api.OK {
			t.Error(u, e)
			continue
		}
		if !strings.Contains(u, "adr") && !strings.Contains(u, "sys") {
			run(t, best, "abcdefghijklmnopqrstuvwxyz")
		}
	}
}

func TestManyFunctions(t *testing.T) { // P20.2
	for vars := range 25 {
		s := ""
		calls := ""
		for i := 0; ; i++ {
			body, sum := "", "0"
			for v := range vars {
				body += fmt.Sprintf("int v%d;", v)
				sum += fmt.Sprintf("+v%d", v)
			}
			f := fmt.Sprintf("int f%d(){if(g){%s}return g+%s;}", i, body, sum)
			call := fmt.Sprintf("g=f%d();", i)
			if w := Weight(parse(t, "int g;"+s+f+"int main(){g=1;"+calls+call+"}")); w > 480 {
				break
			}
			s, calls = s+f, calls+call
		}
		run(t, "int g;"+s+"int main(){g=1;"+calls+"}", "")
	}
}

func TestSame(t *testing.T) { // P20.4
	a := parse(t, "int g;int n[3];int add(int a,int b){return a+b;}int main(){int i=0;while(i<3){n[i]=add(i,g);i=i+1;}put(\"ab\"[1]);return n[2];}")
	b := parse(t, "int zz;// other names\nint put2[3];\tint main2(int x , int y)\n{ return ( x+y ) ; }int main(){int q=(0);while((q<3)){put2[q]=main2(q,zz);q=q+1;}put(\"ab\"[1]);return put2[2];}")
	x, e := Compile(a)
	y, f := Compile(b)
	z, g := Compile(a)
	if x != y || x != z || e != api.OK || f != api.OK || g != api.OK {
		t.Error(e, f, g)
	}
}

func TestOutOfFuel(t *testing.T) { // P20.3
	s := "int main(){int i;while(1){put('a'+i%26);i=i+1;}}"
	tree := parse(t, s)
	x, e := Compile(tree)
	ok(t, e)
	k := boot(t, x)
	for fuel := range 500 {
		r, _ := mean.Run(tree, nil, "", fuel)
		for range 60 {
			k.Run(0)
		}
		if !strings.HasPrefix(k.Console(), r.Out) {
			t.Fatal(fuel, r.Out, k.Console())
		}
	}
}

// steps is a kernel whose /init is such a source's program, which has made so many.
func steps(t *testing.T, s string, n int) *kern.Kernel {
	t.Helper()
	x, e := Compile(parse(t, s))
	ok(t, e)
	k := boot(t, x)
	for range n {
		k.Run(0)
	}
	return k
}

func TestKernelCalls(t *testing.T) { // P20.3: adr and sys
	k := steps(t, "char b[8];int w[2];int main(){int fd=sys(7,adr(\"/x\"),7,0);if(fd!=3)return 1;if(sys(6,fd,adr(\"hello\"),5)!=5)return 2;sys(8,fd,0,0);fd=sys(7,\"/x\",0,0);int n=sys(5,fd,b,8);put(b[4]);if(sys(20,\"/x\",w,0)!=0-3)put('?');sys(16,\"nix\",0,0);return n*100+sys(99,0,0,0);}", 2000)
	if k.Console() != "o?" || k.Table()[0].Status != 500-1 {
		t.Error(k.Console(), k.Table()[0])
	}
	k = steps(t, "int g[1];int main(){g[0]=77;return adr(g);}", 100)
	at := uint64(k.Table()[0].Status)
	if at < 512 || at%8 != 0 {
		t.Error(at)
	}
	k = steps(t, "int g[1];int main(){g[0]=77;sys(15,adr(g),0,0);while(1){}}", 0)
	for range 40 {
		k.Run(0)
	}
	h, _ := k.Regs(0)
	if s, e := k.Peek(0, h.X[10], 8); e != api.OK || word.Of(s) != 77 {
		t.Error(s, e)
	}
	k = steps(t, "int main(){int n;if(sys(2,0,0,0)==0){put('c');exit(5);}sys(3,adr(\"\"),0,0);return sys(3,0,0,0);}", 400)
	for range 200 {
		k.Tick(0)
		for range 30 {
			k.Run(0)
		}
	}
	if k.Console() != "c" || k.Table()[0].State != api.ProcDone {
		t.Error(k.Console(), k.Table()[0])
	}
}

// TestNoByte: get answers what is below 0, where a program reads what has an end.
func TestNoByte(t *testing.T) {
	k := steps(t, "int main(){sys(8,0,0,0);return get();}", 300)
	if s := k.Table()[0].Status; s >= 0 {
		t.Error(s)
	}
}

// TestArguments: args and arg, of a program that another one begins.
func TestArguments(t *testing.T) {
	k := steps(t, "int v[4];int main(){if(args()){put('0'+args());int i;while(i<args()){char*p=arg(i);put(p[0]);i=i+1;}put(arg(1)[1]);return 7;}v[0]=adr(\"one\");v[1]=adr(\"two\");v[2]=adr(\"six\");return sys(10,\"/init\",v,0);}", 2000)
	if k.Console() != "3otsw" || k.Table()[0].Status != 7 {
		t.Error(k.Console(), k.Table()[0])
	}
}

func TestExamples(t *testing.T) {
	if r := run(t, "int main(){put('h');put('i');return 7;}", ""); r != (api.Ran{Kind: api.RanDone, Status: 7, Out: "hi", Stack: 80}) {
		t.Error(r)
	}
	tree := parse(t, "int main(){return 1+(2+(3+(4+(5+(6+(7+8))))));}")
	for i, n := range tree {
		if n.Kind == api.SRet && Need(tree, n.Kids[0]) != 8 {
			t.Error(i)
		}
	}
	if _, e := Compile(tree); e != api.OK && e != api.ErrMany {
		t.Error(e)
	}
}
