package mean

import (
	"fmt"
	"strings"
	"testing"

	"binnacle/api"
	"binnacle/front"
)

func parse(t *testing.T, s string) api.Source {
	t.Helper()
	tree, e, at := front.Parse(s)
	if e != api.OK {
		t.Fatal(s, e, at)
	}
	return tree
}

// ran is what a source's run comes to with all fuel that there is.
func ran(t *testing.T, s, in string, args ...string) api.Ran {
	t.Helper()
	r, e := Run(parse(t, s), args, in, api.MaxFuel)
	if e != api.OK {
		t.Fatal(s, e)
	}
	return r
}

func TestFrame(t *testing.T) { // P19.1
	for locals, want := range map[int]int{0: 80, 1: 80, 2: 96, 3: 96, 4: 112, 23: 256, 24: 272, 25: 0, -1: 0, 1 << 60: 0, -1 << 63: 0} {
		if got := Frame(locals); got != want {
			t.Error(locals, got)
		}
	}
}

func TestArguments(t *testing.T) { // P19.2
	good := parse(t, "int main(){}")
	none := func(tree api.Source, args []string, fuel int, want api.Errno) {
		t.Helper()
		if r, e := Run(tree, args, "", fuel); r != (api.Ran{}) || e != want {
			t.Error(args, fuel, r, e)
		}
	}
	none(nil, nil, -1, api.ErrForm)
	none(parse(t, "int f(){}"), nil, -1, api.ErrLink)
	none(parse(t, "int main(){1=1;}"[:11]+"}"), nil, 1<<60, api.ErrArg)
	none(good, nil, -1, api.ErrArg)
	none(good, nil, 1000001, api.ErrArg)
	none(good, strings.Split("a,b,c,d,e,f,g,h,i", ","), 9, api.ErrArg)
	none(good, []string{"a\x00"}, 9, api.ErrArg)
	none(good, []string{"b", "\x00"}, 9, api.ErrArg)
	none(good, []string{strings.Repeat("x", 200)}, 9, api.ErrArg)
	none(good, []string{strings.Repeat("x", 100), strings.Repeat("x", 99)}, 9, api.ErrArg)
	for _, args := range [][]string{nil, {strings.Repeat("x", 199)}, {"", "", "", "", "", "", "", ""}, {strings.Repeat("x", 100), strings.Repeat("x", 98)}} {
		if r, e := Run(good, args, "", 1000000); e != api.OK || r.Kind != api.RanDone {
			t.Error(args, r, e)
		}
	}
}

// reckoned is the value of an expression.
func reckoned(t *testing.T, x string) int64 {
	t.Helper()
	r := ran(t, "int g;char s[4];int n[4];int one(){g=g+1;return 1;}int nil(){g=g+1;return 0;}int sum(int a,int b,int*p,char*q){return a*100+b*10+p[1]+q[0];}int main(){int i;char*p;int*q;i=5;g=7;p=s;q=n;n[1]=3;s[0]=200;return "+x+";}", "xyz", "zero", "one")
	if r.Kind != api.RanDone {
		t.Error(x, r)
	}
	return r.Status
}

func TestExpressions(t *testing.T) { // P19.2
	for x, want := range map[string]int64{
		"1": 1, "'a'": 97, "i": 5, "g": 7, "p[0]": 200, "q[1]": 3, "n[1]": 3, "(n+1)[0]": 3, "(q+3)[0-2]": 3, `"abc"[1]`: 98, `"abc"[3]`: 0, `("abc"+1)[1]`: 99,
		"-i": -5, "!i": 0, "!0": 1, "~i": -6, "- -i": 5,
		"2*3": 6, "7/2": 3, "-7/2": -3, "7/0": -1, "7%0": 7, "-7%3": -1, "7%-3": 1, "1+2": 3, "1-2": -1, "1<<3": 8, "1<<64": 1, "1<<65": 2, "-8>>1": -4, "-8>>65": -4, "6&3": 2, "6^3": 5, "6|3": 7,
		"1<2": 1, "2<1": 0, "-1<0": 1, "2<=2": 1, "3<=2": 0, "2>1": 1, "1>2": 0, "2>=2": 1, "1>=2": 0, "2==2": 1, "2==3": 0, "2!=3": 1, "2!=2": 0,
		"2&&3": 1, "2&&0": 0, "0&&1": 0, "0||0": 0, "0||5": 1, "5||0": 1,
		"9223372036854775807+1": -1 << 63, "9223372036854775807*2": -2, "(0-9223372036854775807-1)/-1": -1 << 63, "(0-9223372036854775807-1)%-1": 0, "-(0-9223372036854775807-1)": -1 << 63,
		"one()&&nil()": 0, "(nil()&&one())*10+g": 8, "(one()||one())*10+g": 18, "(nil()||one())*10+g": 19, "(one()&&one())*10+g": 19,
		"sum(1,2,n,s)": 100 + 20 + 3 + 200, "one()": 1, "args()": 2, "arg(0)[1]": 'e', "arg(1)[3]": 0, "(arg(0)+2)[1]": 'o', "get()*1000+get()": 'x'*1000 + 'y', "put(321)": 321, "put(-1)": -1,
		"i-1-1": 3, "g*i+one()*g": 43, // from the left: one changes g ahead of the second g
	} {
		if got := reckoned(t, x); got != want {
			t.Error(x, got, want)
		}
	}
}

func TestStatements(t *testing.T) { // P19.2
	for s, want := range map[string]api.Ran{
		"int main(){}":                                                                     {Kind: 1, Stack: 80},
		"int main(){return 3;return 4;}":                                                   {Kind: 1, Status: 3, Stack: 80},
		"int main(){if(2)return 1;else return 2;}":                                         {Kind: 1, Status: 1, Stack: 80},
		"int main(){if(0)return 1;else return 2;}":                                         {Kind: 1, Status: 2, Stack: 80},
		"int main(){if(0)return 1;return 9;}":                                              {Kind: 1, Status: 9, Stack: 80},
		"int main(){int i;while(i<5)i=i+1;return i;}":                                      {Kind: 1, Status: 5, Stack: 80},
		"int main(){int i;while(1){i=i+1;if(i<5)continue;if(i==7)break;}return i;}":        {Kind: 1, Status: 7, Stack: 80},
		"int main(){int i;while(i<3){i=i+1;while(1)break;}return i;}":                      {Kind: 1, Status: 3, Stack: 80},
		"int main(){while(1){while(1)return 4;}}":                                          {Kind: 1, Status: 4, Stack: 80},
		"int main(){int i;int s;while(i<3){int k;k=k+1;s=s+k;i=i+1;}return s;}":            {Kind: 1, Status: 3, Stack: 96},
		"int main(){int i;int s;while(i<3){int k=i;s=s+k;i=i+1;}return s;}":                {Kind: 1, Status: 3, Stack: 96},
		"int main(){if(0){int x=4;}return x;}":                                             {Kind: 1, Stack: 80},
		"int f(int a){a=a+1;int b;b=b+a;return b;}int main(){return f(1)*10+f(2);}":        {Kind: 1, Status: 23, Stack: 176},
		"int f(){}int main(){return f();}":                                                 {Kind: 1, Stack: 160},
		"int f(){while(1){return 1;}}int main(){f();}":                                     {Kind: 1, Stack: 160},
		"int g;int f(){g=g+1;return g;}int main(){f();f();return g;}":                      {Kind: 1, Status: 2, Stack: 160},
		"char b[3];int main(){b[1]=511;return b[1];}":                                      {Kind: 1, Status: 255, Stack: 80},
		"int b[3];int main(){b[2]=-511;return b[2];}":                                      {Kind: 1, Status: -511, Stack: 80},
		"int b[3];int f(int*p){p[1]=8;p=p+1;return p[0];}int main(){return f(b)*10+b[1];}": {Kind: 1, Status: 88, Stack: 160},
		"int main(){put('h');put('i'+256);exit(-3);put('x');}":                             {Kind: 1, Status: -3, Out: "hi", Stack: 80},
		"int f(){exit(4);}int main(){f();return 9;}":                                       {Kind: 1, Status: 4, Stack: 160},
		"int main(){put(get());put(get());put(get());}":                                    {Kind: 2, Out: "ab", Stack: 80},
		"int f(int n){if(n<2)return 1;return n*f(n-1);}int main(){return f(5);}":           {Kind: 1, Status: 120, Stack: 480},
		"int main(){return \"a\\n\"[1];}":                                                  {Kind: 1, Status: 10, Stack: 80},
		"int main(){char*p=\"xy\";p=p+1;put(p[0]);return p[1];}":                           {Kind: 1, Out: "y", Stack: 80},
	} {
		if got := ran(t, s, "ab"); got != want {
			t.Error(s, got, want)
		}
	}
}

func TestWrong(t *testing.T) { // P19.2
	head := "char b[2];int n[2];int f(int*p){}int main(){char*p;int*q;put('x');"
	for _, s := range []string{
		"b[2]=1;", "b[-1]=1;", "n[2]=1;", "b[2];", "n[-1];", "p[0];", "q[0]=1;", "p[1]=2;", "(p+1)[0];", "\"ab\"[0]=1;", "\"ab\"[3];", "\"ab\"[-1];", "arg(0)[0]=1;", "arg(0)[2];", "arg(1);", "arg(-1);", "arg(9223372036854775807);", "sys(12,0,0,0);", "adr(p);", "adr(1);", "n[1<<62];", "(n+9223372036854775807)[1];", "q=n+2;q[0]=1;",
	} {
		if got := ran(t, head+s+"put('y');}", "", "a"); got != (api.Ran{Kind: api.RanWrong, Out: "x", Stack: 96}) {
			t.Error(s, got)
		}
	}
	for s, want := range map[string]api.Ran{
		"char b[1];int main(){b[9]=put('v');}":                                               {Kind: 4, Out: "v", Stack: 80},
		"char b[1];int main(){b[9]=exit(5);}":                                                {Kind: 1, Status: 5, Stack: 80},
		"int main(){sys(put('a'),put('b'),put('c'),put('d'));}":                              {Kind: 4, Out: "abcd", Stack: 80},
		"int n[2];int main(){(n+9223372036854775807)[0-9223372036854775806]=4;return n[1];}": {Kind: 1, Status: 4, Stack: 80},
	} {
		if got := ran(t, s, ""); got != want {
			t.Error(s, got)
		}
	}
}

func TestDeep(t *testing.T) { // P19.2: MaxDeep
	f := func(vars, n int) string {
		s := "int f(int n){"
		for i := range vars {
			s += fmt.Sprintf("int v%d;", i)
		}
		return s + fmt.Sprintf("if(n)f(n-1);}int main(){f(%d);return 5;}", n)
	}
	for _, c := range []struct{ vars, n int }{{0, 18}, {0, 19}, {0, 1000}, {1, 14}, {1, 15}, {23, 4}, {23, 5}} {
		frame := Frame(c.vars + 1)
		need := 80 + frame*(c.n+1)
		want := api.Ran{Kind: api.RanDone, Status: 5, Stack: need}
		if need > 1600 {
			want = api.Ran{Kind: api.RanWrong, Stack: 80 + frame*((1600-80)/frame+1)}
		}
		if got := ran(t, f(c.vars, c.n), ""); got != want {
			t.Error(c, got, want)
		}
	}
}

func TestFuel(t *testing.T) { // P19.2: what costs how much
	for s, need := range map[string]int{
		"int main(){}":                                1,
		"int main(){return 7;}":                       3,
		"int main(){put('h');put('i');return 7;}":     9,
		"int main(){{}{{}}}":                          4,
		"int main(){int a;int b=1;}":                  4,
		"int g;int main(){g=1+g;}":                    5,
		"int n[2];int main(){n[1]=2;n[0];}":           1 + 4 + 4,
		"int main(){if(1){}else return 1;}":           4,
		"int main(){if(0)return 1;else{}}":            4,
		"int main(){if(0)return 1;}":                  3,
		"int main(){int i;while(i<2)i=i+1;}":          1 + 1 + 1 + 3*3 + 2*4,
		"int main(){while(1)break;}":                  4,
		"int main(){int i;while(i<1){i=1;continue;}}": 1 + 1 + 1 + 2*3 + 1 + 2 + 1,
		"int f(int a){return a;}int main(){f(-1);}":   1 + 1 + 1 + 2 + 1 + 2,
		"int main(){0&&f();1||f();1&&2;}int f(){}":    1 + 3 + 3 + 4,
		"int main(){\"a\"[0];}":                       5,
	} {
		tree := parse(t, s)
		for fuel := range need + 3 {
			r, e := Run(tree, nil, "", fuel)
			want := api.RanFuel
			if fuel >= need {
				want = api.RanDone
			}
			if e != api.OK || r.Kind != want || r.Kind == api.RanFuel && r.Status != 0 {
				t.Error(s, fuel, r, e)
			}
		}
	}
}

func TestMoreFuel(t *testing.T) { // P19.3
	for _, s := range []string{
		"int f(int n){put('0'+n);if(n)return f(n-1)+1;return get();}int main(){while(1)f(get()%8);}",
		"int main(){int i;while(1){put(i);i=i+1;if(i==9)exit(i);}}",
		"char b[4];int main(){int i;while(1){b[i]=put('a'+i);i=i+1;}}",
		"int main(){while(1){}}",
	} {
		tree := parse(t, s)
		last, _ := Run(tree, nil, "hello", 0)
		for fuel := range 400 {
			r, _ := Run(tree, nil, "hello", fuel)
			if again, _ := Run(tree, nil, "hello", fuel); again != r {
				t.Fatal(s, fuel, "another run")
			}
			if !strings.HasPrefix(r.Out, last.Out) || r.Stack < last.Stack || last.Kind != api.RanFuel && r != last {
				t.Fatal(s, fuel, last, r)
			}
			last = r
		}
	}
}

func TestExamples(t *testing.T) {
	for s, want := range map[string]api.Ran{
		"int main(){put('h');put('i');return 7;}":                                 {Kind: 1, Status: 7, Out: "hi", Stack: 80},
		"int f(int n){if(n<2)return 1;return n*f(n-1);} int main(){return f(5);}": {Kind: 1, Status: 120, Stack: 480},
		"int main(){while(1)put(get());}":                                         {Kind: 2, Out: "ab", Stack: 80},
		"char b[2];int main(){b[2]=1;}":                                           {Kind: 4, Stack: 80},
	} {
		if got := ran(t, s, "ab"); got != want {
			t.Error(s, got)
		}
	}
}
