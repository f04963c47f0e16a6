package gen

import (
	"fmt"
	"math/rand"
	"strings"
	"testing"

	"binnacle/api"
	"binnacle/front"
	"binnacle/mean"
	"binnacle/sort"
)

// maker makes random programs that mostly do what may be done.
type maker struct {
	r     *rand.Rand
	out   strings.Builder
	ints  []string // variables that may be named
	strs  []string
	ptrs  []string
	fixed map[string]bool // that may not be set
	funs  []fun
	names int
	loops int
}

type fun struct {
	name   string
	params string // a letter each: i, s, p
}

func (m *maker) pick(list []string) string { return list[m.r.Intn(len(list))] }

func (m *maker) number() string {
	switch m.r.Intn(8) {
	case 0:
		return fmt.Sprint(m.r.Int63())
	case 1:
		return fmt.Sprint(m.r.Int63() >> m.r.Intn(63))
	case 2:
		return fmt.Sprint([]int64{2047, 2048, 2049, 4095, 4096, 1<<31 - 1, 1 << 31, 1 << 32, 1<<63 - 1, 255, 256}[m.r.Intn(11)])
	}
	return fmt.Sprint(m.r.Intn(10))
}

// text is an expression of type char *, with at least eight bytes behind it; whether it may be written.
func (m *maker) text(deep int) string {
	switch m.r.Intn(4) {
	case 0:
		return `"abcdefgh` + strings.Repeat("x", m.r.Intn(4)) + `"`
	case 1:
		if deep > 0 {
			return "(" + m.text(deep-1) + "+0*" + m.expr(deep-1) + ")"
		}
	}
	return m.pick(m.strs)
}

func (m *maker) ptr(deep int) string {
	if deep > 0 && m.r.Intn(4) == 0 {
		return "(" + m.ptr(deep-1) + "+(" + m.expr(deep-1) + "&1))"
	}
	return m.pick(m.ptrs)
}

func (m *maker) call(deep int) string {
	return m.callOf(m.funs[m.r.Intn(len(m.funs))], deep)
}

func (m *maker) callOf(f fun, deep int) string {
	var args []string
	for _, p := range f.params {
		switch p {
		case 's':
			args = append(args, m.text(deep-1))
		case 'p':
			args = append(args, m.pick(m.ptrs))
		default:
			args = append(args, m.expr(deep-1))
		}
	}
	return f.name + "(" + strings.Join(args, ",") + ")"
}

func (m *maker) expr(deep int) string {
	if deep <= 0 {
		if m.r.Intn(2) == 0 || len(m.ints) == 0 {
			return m.number()
		}
		return m.pick(m.ints)
	}
	switch m.r.Intn(16) {
	case 0:
		return m.number()
	case 1, 2:
		return []string{"-", "!", "~", "- -"}[m.r.Intn(4)] + m.expr(deep-1)
	case 3:
		return m.text(deep-1) + "[" + m.expr(deep-1) + "&7]"
	case 4:
		return m.ptr(deep-1) + "[" + m.expr(deep-1) + "&3]"
	case 5:
		return m.text(0) + "[" + fmt.Sprint(m.r.Intn(8)) + "]"
	case 6:
		if len(m.funs) > 0 {
			return m.call(deep)
		}
	case 7:
		return []string{"put(" + m.expr(deep-1) + ")", "get()", "args()", "put('a'+" + m.expr(deep-1) + "%26)"}[m.r.Intn(4)]
	case 8:
		if len(m.ints) > 0 {
			return m.pick(m.ints)
		}
	}
	op := []string{"*", "/", "%", "+", "-", "<<", ">>", "<", "<=", ">", ">=", "==", "!=", "&", "^", "|", "&&", "||"}[m.r.Intn(18)]
	return "(" + m.expr(deep-1) + op + m.expr(deep-1) + ")"
}

func (m *maker) fresh() string {
	m.names++
	return fmt.Sprintf("v%d", m.names)
}

func (m *maker) say(format string, args ...any) { fmt.Fprintf(&m.out, format, args...) }

func (m *maker) block(deep, many int) {
	m.say("{")
	for range m.r.Intn(many) + 1 {
		m.stmt(deep)
	}
	m.say("}")
}

func (m *maker) stmt(deep int) {
	switch m.r.Intn(13) {
	case 0:
		v := m.fresh()
		if m.r.Intn(3) > 0 {
			m.say("int %s=%s;", v, m.expr(2))
		} else {
			m.say("int %s;", v)
		}
		m.ints = append(m.ints, v)
	case 1:
		v := m.fresh()
		m.say("char*%s=%s;", v, m.text(1))
		if deep == 3 { // it was done whatever comes
			m.strs = append(m.strs, v)
		}
	case 2, 3:
		if v := m.pick(m.ints); !m.fixed[v] {
			m.say("%s=%s;", v, m.expr(3))
		}
	case 4:
		m.say("cs%d[%s&7]=%s;", m.r.Intn(2), m.expr(2), m.expr(2))
	case 5:
		m.say("%s[%s&3]=%s;", m.ptr(2), m.expr(2), m.expr(2))
	case 6:
		m.say("%s;", m.expr(3))
	case 7:
		m.say("put(%s);", m.expr(2))
	case 8, 9:
		if deep > 0 {
			m.say("if(%s)", m.expr(2))
			m.block(deep-1, 3)
			if m.r.Intn(2) == 0 {
				m.say("else ")
				m.block(deep-1, 2)
			}
		}
	case 10:
		if deep > 0 {
			m.loop(deep)
		}
	case 11:
		if m.r.Intn(8) == 0 && deep < 3 {
			m.say("return %s;", m.expr(2))
		} else if m.r.Intn(30) == 0 {
			m.say("exit(%s);", m.expr(1))
		}
	case 12:
		if m.loops > 0 {
			m.say("if(%s)%s;", m.expr(1), []string{"break", "continue"}[m.r.Intn(2)])
		}
	}
}

// loop is one that ends.
func (m *maker) loop(deep int) {
	v := m.fresh()
	m.say("int %s=%d;while(%s)", v, 1+m.r.Intn(4), []string{v, v + ">0", v + "!=0&&" + v + "<9", "0<" + v, "1"}[m.r.Intn(5)])
	m.fixed[v] = true
	m.ints = append(m.ints, v)
	m.loops++
	m.say("{%s=%s-1;if(%s<=0)break;", v, v, v)
	for range m.r.Intn(3) {
		m.stmt(deep - 1)
	}
	m.say("}")
	m.loops--
}

// program is one; its functions call those ahead of them alone, or themselves with less.
func (m *maker) program() string {
	var kinds = []string{"int g0;", "int g1;", "char cs0[8];", "char cs1[9];", "int ns0[4];", "int ns1[5];"}
	if m.r.Intn(6) == 0 { // so much room that not all of it is near
		kinds = append([]string{"int big0[200];", "int big1[150];"}, kinds...)
	}
	m.r.Shuffle(len(kinds), func(i, j int) { kinds[i], kinds[j] = kinds[j], kinds[i] })
	for _, k := range kinds {
		m.say("%s", k)
	}
	m.fixed = map[string]bool{}
	for i := range m.r.Intn(4) {
		m.globals()
		f := fun{name: fmt.Sprintf("f%d", i)}
		var params []string
		for p := range m.r.Intn(4) {
			name := fmt.Sprintf("p%d", p)
			switch m.r.Intn(4) {
			case 0:
				f.params += "s"
				params = append(params, "char*"+name)
				m.strs = append(m.strs, name)
			case 1:
				f.params += "p"
				params = append(params, "int*"+name)
				m.ptrs = append(m.ptrs, name)
			default:
				f.params += "i"
				params = append(params, "int "+name)
				m.ints = append(m.ints, name)
			}
		}
		m.say("int %s(%s)", f.name, strings.Join(params, ","))
		m.block(2, 4)
		m.funs = append(m.funs, f)
	}
	m.globals()
	m.say("int main(){")
	for range m.r.Intn(7) + 2 {
		m.stmt(3)
	}
	for _, f := range m.funs {
		m.say("put(%s);", m.callOf(f, 1))
	}
	m.say("put(g0);put(g1>>9);put(cs0[%d]);put(cs1[%d]);put(ns0[%d]);return %s;}", m.r.Intn(8), m.r.Intn(8), m.r.Intn(4), m.expr(2))
	return m.out.String()
}

// globals lets nothing be named but what all functions can.
func (m *maker) globals() {
	m.ints, m.strs, m.ptrs = []string{"g0", "g1"}, []string{"cs0", "cs1"}, []string{"ns0", "ns1"}
}

// fair tells whether a tree has to be compiled.
func fair(tree api.Source) bool {
	data, room := 0, 64
	for i, n := range tree {
		if Need(tree, i) > 7 {
			return false
		}
		switch n.Kind {
		case api.EText:
			data += len(n.Text) + 1
		case api.DVar:
			room += 8
		case api.DArray:
			size := int(n.N)
			if n.M == api.TypePtr {
				size *= 8
			}
			room += (size + 7) / 8 * 8
		}
	}
	return Weight(tree) <= 480 && data <= 200 && room <= 4000
}

// TestRandom: programs do on the machine what their trees mean.
func TestRandom(t *testing.T) { // P20.2, P20.3
	kinds := map[int]int{}
	compiled := 0
	for seed := range int64(800) {
		m := &maker{r: rand.New(rand.NewSource(seed))}
		s := m.program()
		tree, e, _ := front.Parse(s)
		if e != api.OK {
			continue
		}
		if _, e, at := sort.Check(tree); e != api.OK {
			if e != api.ErrMany {
				t.Fatal(s, e, at)
			}
			continue
		}
		if _, e := Compile(tree); e != api.OK {
			if fair(tree) {
				t.Fatalf("%s\n%d, weight %d", s, e, Weight(tree))
			}
			continue
		}
		in := "hello, world"[:seed%13]
		if r, _ := mean.Run(tree, nil, in, 3000); r.Kind == api.RanFuel {
			continue // too long
		}
		compiled++
		if x, _ := Compile(tree); len(x.Text)/4 > Weight(tree)+32 {
			t.Error(s, "is longer than its weight")
		}
		kinds[does(t, s, tree, in).Kind]++
	}
	t.Log(compiled, kinds)
	if kinds[api.RanDone] < 300 || kinds[api.RanWaits] < 10 {
		t.Error(kinds)
	}
}
