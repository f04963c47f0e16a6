package stack

import (
	"math/rand"
	"slices"
	"strings"
	"testing"

	"binnacle/api"
	"binnacle/disk"
	"binnacle/inst"
	"binnacle/kern"
	"binnacle/lib"
	"binnacle/prog"
	"binnacle/tree"
	"binnacle/word"
)

func machine(t *testing.T, sectors, size, harts int) *Machine {
	t.Helper()
	m, e := New(sectors, size, harts)
	if m == nil || e != api.OK {
		t.Fatal(e)
	}
	return m
}

// prints makes steps till the machine has printed that, and fails if it prints anything else.
func prints(t *testing.T, m *Machine, what, want string) {
	t.Helper()
	for range 400 {
		if len(m.Console()) >= len(want) {
			break
		}
		ok(t, m.Steps(500))
	}
	ok(t, m.Steps(300))
	if got := m.Console(); got != want {
		t.Fatalf("%s: %q, not %q", what, got[min(len(got), max(len(want)-40, 0)):], want[max(len(want)-40, 0):])
	}
}

func TestNil(t *testing.T) { // chapter 22's promises
	var m *Machine
	m.Power(3)
	if m.Type("x") != 0 || m.Steps(1) != api.ErrArg || m.Steps(-1) != api.ErrArg || m.Console() != "" || m.Kernel() != nil || m.Image() != nil || m.Crash(0) != api.ErrArg {
		t.Error("of none")
	}
}

func TestNew(t *testing.T) { // P22.1
	for _, c := range []struct {
		sectors, size, harts int
		e                    api.Errno
	}{{47, 0, 0, api.ErrArg}, {545, 200, 1, api.ErrArg}, {-1, 200, 1, api.ErrArg}, {48, 0, 0, api.ErrFull}, {48, 200, 1, api.ErrFull}, {400, 15, 1, api.ErrArg}, {400, 257, 1, api.ErrArg}, {400, 200, 0, api.ErrArg}, {400, 200, 5, api.ErrArg}, {400, 16, 1, api.ErrFull}} {
		if m, e := New(c.sectors, c.size, c.harts); m != nil || e != c.e {
			t.Error(c, e)
		}
	}
	m := machine(t, 400, 200, 1)
	d, _ := disk.New(400)
	ok(t, lib.Pack(d))
	if m.Console() != "" || m.Kernel() == nil || m.Kernel().On(0) != -1 || !slices.Equal(m.Image(), d.Image()) {
		t.Error("New")
	}
}

func TestSteps(t *testing.T) { // P22.2: the same picks made by hand
	for harts := 1; harts <= 4; harts++ {
		m := machine(t, 400, 200, harts)
		d, _ := disk.New(400)
		ok(t, lib.Pack(d))
		k, e := kern.Boot(d, 200, harts)
		ok(t, e)
		c := 0
		for _, n := range []int{0, 1, 62, 1, 1, 63, 1000, 4000} {
			ok(t, m.Steps(n))
			for range n {
				if c%64 == 63 {
					ok(t, k.Tick(c%harts))
				}
				ok(t, k.Run(c%harts))
				c++
			}
			a, _ := m.Kernel().Regs(0)
			b, _ := k.Regs(0)
			if a != b || m.Console() != k.Console() {
				t.Error(harts, n)
			}
			if n == 1000 {
				m.Type("echo a | cat\n")
				k.Input("echo a | cat\n")
			}
			for hart := range harts {
				if m.Kernel().On(hart) != k.On(hart) {
					t.Error(harts, n, hart)
				}
			}
		}
	}
	m := machine(t, 400, 200, 1)
	for _, n := range []int{-1, 1000001, 1 << 60, -1 << 63} {
		if m.Steps(n) != api.ErrArg {
			t.Error(n)
		}
	}
	ok(t, m.Steps(1000000))
}

func TestType(t *testing.T) { // P22.3
	m := machine(t, 400, 200, 1)
	if m.Type(strings.Repeat("x", 300)) != 256 || m.Type("y") != 0 {
		t.Error("Type")
	}
	image := m.Image()
	image[40] = "x"
	if m.Image()[40] == "x" {
		t.Error("an image that is handed out is kept")
	}
}

func TestExamples(t *testing.T) { // the document's ten examples of the whole
	m := machine(t, 400, 200, 1)
	ok(t, m.Steps(6000))
	if m.Console() != "$ " {
		t.Errorf("%q", m.Console())
	}
	want := "$ "
	for _, p := range [][2]string{{"echo a b", "a b\n"}, {"echo one two > f", ""}, {"cat f", "one two\n"}, {"cat f | wc", "1 2 8\n"}, {"wc < f", "1 2 8\n"}, {"no", "?\n"}, {"mkdir d", ""}, {"cd d", ""}, {"/ln ../f g", ""}, {"/cat g nix", "one two\ncat: nix?\n"}, {"/rm g g", "?\n"}} {
		m.Type(p[0] + "\n")
		want += p[1] + "$ "
		prints(t, m, p[0], want)
	}
	ok(t, m.Crash(0))
	prints(t, m, "crash", "$ ")
	m.Type("cat f\n")
	prints(t, m, "cat f", "$ one two\n$ ")
	m = machine(t, 400, 200, 1)
	ok(t, m.Steps(6000))
	if m.Type("echo hi\n") != 8 {
		t.Error("Type")
	}
	ok(t, m.Steps(100000))
	if m.Console() != "$ hi\n$ " {
		t.Errorf("%q", m.Console())
	}
}

func TestCrash(t *testing.T) { // P22.4
	m := machine(t, 400, 200, 2)
	m.Type("rm init\n")
	ok(t, m.Steps(30000))
	if e := m.Crash(0); e != api.ErrExec || m.Kernel() != nil {
		t.Error(e)
	}
	if m.Type("x") != 0 || m.Console() != "" || m.Steps(10) != api.OK || m.Steps(-1) != api.ErrArg || len(m.Image()) != 400 {
		t.Error("without a kernel")
	}
	m = machine(t, 400, 200, 2)
	m.Power(0)
	m.Type("mkdir d\n")
	ok(t, m.Steps(30000))
	ok(t, m.Crash(^uint64(0)))
	a, _ := New(400, 200, 2)
	ok(t, m.Steps(4000))
	ok(t, a.Steps(4000))
	if m.Console() != a.Console() || m.Kernel().Table() != a.Kernel().Table() || m.Kernel().On(1) != a.Kernel().On(1) {
		t.Error("a kernel that has made no picks")
	}
	m.Type("mkdir d\n")
	prints(t, m, "mkdir", "$ $ ")
}

// chat makes lines that stand in no other one's way.
type chat struct {
	r   *rand.Rand
	dir bool // the shell is not in the root
}

func (c *chat) pick(list ...string) string { return list[c.r.Intn(len(list))] }

func (c *chat) program(name string) string {
	if c.dir || c.r.Intn(3) == 0 {
		return "/" + name
	}
	return name
}

func (c *chat) path() string {
	return c.pick("", "", "/", "d/", "../", "/d/", "./", "d/e/") + c.pick("a", "b", "c", "d", "e", "nix", "long_name_of_14", "too_long_a_name")
}

func (c *chat) blanks(s string) string {
	if c.r.Intn(4) == 0 {
		s = strings.ReplaceAll(s, " ", "   ")
	}
	if c.r.Intn(6) == 0 {
		s += "  "
	}
	return s
}

func (c *chat) reader() string {
	return c.pick(c.program("cat"), c.program("wc"))
}

func (c *chat) line() string {
	switch c.r.Intn(16) {
	case 0, 1, 2:
		return c.blanks(c.program("echo") + " " + c.pick("hello", "one two", "x  y", "") + " > " + c.path())
	case 3, 4:
		return c.blanks(c.program("cat") + " " + c.path() + " " + c.pick("", c.path()))
	case 5:
		return c.program("mkdir") + " " + c.path()
	case 6:
		return c.program("rm") + " " + c.path() + " " + c.pick("", c.path())
	case 7:
		return c.program("ln") + " " + c.path() + " " + c.path()
	case 8:
		return c.program("ls") + " " + c.pick("", c.path(), ".", "..", "/")
	case 9:
		s := c.pick("/", "d", "..", "/d", "nix", "", "d/e", "a")
		c.dir = true
		return "cd " + s
	case 10:
		return c.blanks(c.reader() + " < " + c.path())
	case 11:
		return c.blanks(c.pick(c.program("cat")+" "+c.path(), c.program("echo")+" some words", c.program("ls")+" /") + c.pick("|", " | ") + c.reader())
	case 12:
		return c.program("wc") + " " + c.path()
	case 13:
		return c.program("echo") + " a | " + c.program("cat") + " > " + c.path()
	case 14:
		return c.pick("", "nix", "/d", "  ", "|", "> ", "nix | cat", "nix < a", c.program("echo")+" | ", "no such thing")
	}
	return c.program("ls") + " " + c.path() + " | " + c.reader()
}

// TestSessions is T1.
func TestSessions(t *testing.T) {
	for seed := range int64(24) {
		c := &chat{r: rand.New(rand.NewSource(seed))}
		harts := 1 + int(seed%4)
		m, x := machine(t, 400, 200, harts), newModel(t, 400)
		want := "$ "
		prints(t, m, "first", want)
		for range 30 {
			line := c.line()
			if strings.Contains(line, "cat  ") || strings.HasSuffix(line, "wc ") || strings.HasSuffix(line, "nix | cat") && c.dir {
				continue // it might wait for what is typed
			}
			if m.Type(line+"\n") != len(line)+1 {
				t.Fatal("typed too much")
			}
			want += x.line(line) + "$ "
			prints(t, m, line, want)
		}
		if got := dumpImage(t, m.Image()); got != dump(t, x.x) {
			t.Fatalf("%d: the trees differ:\n%s\n%s", seed, got, dump(t, x.x))
		}
	}
}

// TestCrashes is T2.
func TestCrashes(t *testing.T) {
	lines := "echo hello > f\nmkdir d\nln f d/g\ncat f f f > d/h\nrm f\necho a | cat > d/g\nrm d/h d/g d\n"
	run := func(power int) *Machine {
		m := machine(t, 300, 120, 1)
		ok(t, m.Steps(3000))
		m.Type(lines)
		m.Power(power)
		return m
	}
	m := run(-1)
	found := map[string]int{dumpImage(t, m.Image()): 0} // all trees of the undisturbed machine
	last := m.Image()
	for n := 0; n < 60000; n++ {
		ok(t, m.Steps(1))
		if image := m.Image(); !slices.Equal(image, last) {
			last = image
			found[dumpImage(t, image)]++
		}
	}
	if !strings.HasSuffix(m.Console(), "$ ") || len(found) < 8 {
		t.Fatal(m.Console(), len(found))
	}
	for power := range 260 {
		m := run(power)
		ok(t, m.Steps(40000))
		keep := [...]uint64{0, ^uint64(0), 0x5555555555555555, uint64(power) * 0x9e3779b97f4a7c15}[power%4]
		if e := m.Crash(keep); e != api.OK {
			t.Fatal(power, e)
		}
		if _, there := found[dumpImage(t, m.Image())]; !there {
			t.Fatal(power, keep, dumpImage(t, m.Image()))
		}
		prints(t, m, "behind the crash", "$ ")
		m.Type("echo on > new\n")
		prints(t, m, "behind the crash", "$ $ ")
		m.Type("cat new\n")
		prints(t, m, "behind the crash", "$ $ on\n$ ")
	}
}

// stranger is a program of random bytes, or of random instructions, among them calls.
func stranger(r *rand.Rand) string {
	n := 4 * (1 + r.Intn(60))
	text := ""
	for len(text) < n {
		if r.Intn(12) == 0 {
			text += word.Bytes(r.Uint64(), 4)
			continue
		}
		x := api.Inst{Op: 1 + r.Intn(api.LastOp)}
		switch r.Intn(4) {
		case 0:
			x = api.Inst{Op: api.Addi, Rd: 17, Imm: int64(1 + r.Intn(21))}
		case 1:
			x = api.Inst{Op: api.Addi, Rd: 10 + r.Intn(3), Imm: int64([]int{0, 1, 3, 256, 300, 512, 600, 8, -1}[r.Intn(9)])}
		case 2:
			x = api.Inst{Op: api.Ecall}
		default:
			x.Rd, x.Rs1, x.Rs2, x.Imm = r.Intn(32), []int{2, 10, 0, r.Intn(32)}[r.Intn(4)], r.Intn(32), int64(r.Intn(64)&^3)
		}
		if w, e := inst.Encode(x); e == api.OK {
			text += word.Bytes(uint64(w), 4)
		}
	}
	if r.Intn(20) == 0 {
		return text // no program at all
	}
	x := api.Prog{Text: text[:n], Data: "/f\x00" + text[:r.Intn(min(20, n))], Bss: r.Intn(600), Entry: 4 * r.Intn(n/4)}
	s, _ := prog.Encode(x)
	return s
}

// TestStrangers is T3.
func TestStrangers(t *testing.T) {
	ended, on := 0, 0
	for seed := range int64(120) {
		r := rand.New(rand.NewSource(seed))
		d, _ := disk.New(400)
		ok(t, lib.Pack(d))
		x, e := tree.Mount(d)
		ok(t, e)
		for _, p := range []string{"/s", "/f"} {
			n, e := x.Make(0, p, api.KindFile)
			ok(t, e)
			ok(t, x.Write(n, 0, stranger(r)))
		}
		harts := 1 + r.Intn(3)
		k, e := kern.Boot(d, 160, harts)
		ok(t, e)
		c := 0
		steps := func(n int) {
			for range n {
				if c%64 == 63 {
					ok(t, k.Tick(c%harts))
				}
				ok(t, k.Run(c%harts))
				c++
			}
			apart(t, k, 160)
		}
		steps(4000)
		k.Input("s a b | s\n")
		steps(20000)
		alone := true
		for pid, row := range k.Table() {
			alone = alone && (pid == 0) == (row.State == api.ProcLive)
		}
		if !alone {
			continue // they go on, or the first process is gone
		}
		ended++
		if !strings.HasSuffix(k.Console(), "$ ") {
			t.Fatalf("%d: %q", seed, k.Console())
		}
		before := len(k.Console())
		k.Input("/echo hi | /cat\n")
		steps(20000)
		if got := k.Console()[before:]; got == "hi\n$ " {
			on++
		} else if _, e := x.Find(0, "/echo"); e == api.OK {
			t.Errorf("%d: %q", seed, got)
		}
	}
	if ended < 40 || on < 36 {
		t.Error(ended, on)
	}
}

// apart fails, if a frame is of two processes, or lost.
func apart(t *testing.T, k *kern.Kernel, size int) {
	t.Helper()
	had := map[int]int{}
	for pid, row := range k.Table() {
		if row.State != api.ProcLive {
			continue
		}
		frames, e := k.Frames(pid)
		ok(t, e)
		for _, f := range frames {
			had[f]++
			if had[f] > 1 || f < 0 || f >= size {
				t.Fatal("a frame of two", f)
			}
		}
	}
	if len(had)+k.Left() != size {
		t.Fatal("frames are lost", len(had), k.Left())
	}
}

// TestEcho is the last one of the document's examples of the whole.
func TestEcho(t *testing.T) {
	d, _ := disk.New(100)
	x, e := tree.Format(d)
	ok(t, e)
	n, e := x.Make(0, "init", api.KindFile)
	ok(t, e)
	ok(t, x.Write(n, 0, echoProgram(t)))
	m := &Machine{disk: d, size: 64, harts: 2}
	ok(t, m.begin())
	m.Type("abc\ndef")
	ok(t, m.Steps(3000))
	if m.Console() != "abc\ndef" {
		t.Errorf("%q", m.Console())
	}
}
