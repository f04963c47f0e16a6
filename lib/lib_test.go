package lib

import (
	"fmt"
	"math/rand"
	"slices"
	"strings"
	"testing"

	"binnacle/api"
	"binnacle/disk"
	"binnacle/kern"
	"binnacle/prog"
	"binnacle/tree"
)

func TestNames(t *testing.T) { // P21.1
	want := []string{"echo", "cat", "wc", "rm", "mkdir", "ln", "ls", "sh"}
	got := Names()
	if !slices.Equal(got, want) {
		t.Error(got)
	}
	got[0] = "x"
	if !slices.Equal(Names(), want) {
		t.Error("a list that is handed out is kept")
	}
	for _, name := range want {
		x, e := Program(name)
		y, _ := Program(name)
		if e != api.OK || !prog.May(x) || x != y {
			t.Error(name, e)
		}
	}
	for _, name := range []string{"", "init", "Echo", "echo ", "cat\x00", strings.Repeat("x", 100000)} {
		if x, e := Program(name); x != (api.Prog{}) || e != api.ErrNone {
			t.Error(name, e)
		}
	}
}

func TestPack(t *testing.T) { // P21.2
	if e := Pack(nil); e != api.ErrArg {
		t.Error(e)
	}
	x, e := tree.Mount(packed(t, nil))
	ok(t, e)
	if got := names(t, x, "/"); !slices.Equal(got, append(Names(), "init")) {
		t.Error(got)
	}
	for i, name := range append(Names(), "init") {
		p, e := Program(strings.Replace(name, "init", "sh", 1))
		ok(t, e)
		s, e := prog.Encode(p)
		ok(t, e)
		if n, _ := x.Find(0, name); content(t, x, name) != s || n != i+1 {
			t.Error(name, n)
		}
	}
	d, _ := disk.New(48)
	if e := Pack(d); e != api.ErrFull {
		t.Error("too small", e)
	}
	d, _ = disk.New(400)
	ok(t, d.Write(1, strings.Repeat("x", 64)))
	if e := Pack(d); e != api.ErrForm {
		t.Error("no log", e)
	}
	for power := 0; power < 2000; power += 97 {
		d, _ := disk.New(400)
		d.Power(power)
		if e := Pack(d); e != api.ErrDead && e != api.OK {
			t.Error(power, e)
		} else if e == api.OK {
			break
		}
	}
}

// plant makes some files: /f, /long, /d, /d/in, /e.
func plant(t *testing.T) func(x *tree.Tree) {
	return func(x *tree.Tree) {
		file(t, x, "/f", "one two\nthree")
		file(t, x, "/long", long)
		for _, p := range []string{"/d", "/e"} {
			_, e := x.Make(0, p, api.KindDir)
			ok(t, e)
		}
		file(t, x, "/d/in", "  inner \n\n")
	}
}

var long = strings.Repeat("0123456789 abcdefg\n", 120)

// TestUtilities: what they print, and their status.
func TestUtilities(t *testing.T) { // P21.3
	for _, c := range []struct {
		args   string // with _ between
		first  string // what is done ahead of it
		out    string
		status int
	}{
		{"echo", "", "\n", 0}, {"echo_a", "", "a\n", 0}, {"echo_a b_c__", "", "a b c  \n", 0}, {"echo_1_2_3_4_5_6_7", "", "1 2 3 4 5 6 7\n", 0},
		{"cat_f", "", "one two\nthree", 0}, {"cat_/d/in_f", "", "  inner \n\none two\nthree", 0}, {"cat_long", "", long, 0}, {"cat_nix", "", "cat: nix?\n", 1}, {"cat_f_nix_f", "", "one two\nthreecat: nix?\n", 1}, {"cat_", "", "cat: ?\n", 1}, {"cat_f/x", "", "cat: f/x?\n", 1},
		{"cat_d", "", "\x01\x00.." + strings.Repeat("\x00", 12) + "\x0f\x00in" + strings.Repeat("\x00", 12), 0},
		{"cat", `sys(8,0,0,0);sys(7,"f",0,0);`, "one two\nthree", 0}, {"cat", `sys(8,0,0,0);sys(7,"long",0,0);`, long, 0}, {"cat", `sys(8,0,0,0);`, "", 0},
		{"wc_f", "", "1 3 13\n", 0}, {"wc_d/in", "", "2 1 10\n", 0}, {"wc_long", "", "120 240 2280\n", 0}, {"wc_nix", "", "?\n", 1}, {"wc_f_nix", "", "1 3 13\n", 0}, {"wc_", "", "?\n", 1},
		{"wc", `sys(8,0,0,0);sys(7,"f",0,0);`, "1 3 13\n", 0}, {"wc", `sys(8,0,0,0);`, "0 0 0\n", 0},
		{"rm", "", "", 0}, {"rm_f", "", "", 0}, {"rm_f_d/in_d_e", "", "", 0}, {"rm_nix", "", "?\n", 1}, {"rm_f_nix_long", "", "?\n", 1}, {"rm_d", "", "?\n", 1}, {"rm_", "", "?\n", 1},
		{"mkdir_n", "", "", 0}, {"mkdir_d/n", "", "", 0}, {"mkdir", "", "?\n", 1}, {"mkdir_n_m", "", "?\n", 1}, {"mkdir_d", "", "?\n", 1}, {"mkdir_nix/n", "", "?\n", 1},
		{"ln_f_g", "", "", 0}, {"ln_f_/d/g", "", "", 0}, {"ln", "", "?\n", 1}, {"ln_f", "", "?\n", 1}, {"ln_f_g_h", "", "?\n", 1}, {"ln_d_g", "", "?\n", 1}, {"ln_f_d", "", "?\n", 1}, {"ln_nix_g", "", "?\n", 1},
		{"ls_d", "", "in\n", 0}, {"ls_e", "", "", 0}, {"ls_/d/../d_nix", "", "in\n", 0}, {"ls", `sys(16,"d",0,0);`, "in\n", 0}, {"ls_nix", "", "?\n", 1}, {"ls_", "", "?\n", 1}, {"ls", "", "echo\ncat\nwc\nrm\nmkdir\nln\nls\nsh\ninit\nf\nlong\nd\ne\n", 0},
		{"ls", `sys(19,"f",0,0);sys(7,"fourteen_bytes",7,0);`, "echo\ncat\nwc\nrm\nmkdir\nln\nls\nsh\ninit\nfourteen_bytes\nlong\nd\ne\n", 0},
	} {
		r := call(t, plant(t), c.first, "", strings.Split(c.args, "_")...)
		if r.out != c.out || r.status != c.status {
			t.Errorf("%s: %q %d, not %q %d", c.args, r.out, r.status, c.out, c.status)
		}
		known := len(c.args) + 1
		for _, a := range strings.Split(c.args, "_")[1:] {
			if n, e := r.tree.Find(0, a); e == api.OK {
				st, _ := r.tree.Stat(n)
				known += st.Size
			}
		}
		if c.first != "" {
			known += len(long)
		}
		if r.runs > 3000+400*known+2000 {
			t.Error(c.args, r.runs, "runs")
		}
	}
}

func TestDeeds(t *testing.T) { // P21.3: what they do to the tree
	r := call(t, plant(t), "", "", "rm", "f", "nix", "long")
	if got := names(t, r.tree, "/"); slices.Contains(got, "f") || !slices.Contains(got, "long") {
		t.Error("until one is refused", got)
	}
	r = call(t, plant(t), "", "", "mkdir", "d/n")
	if got := names(t, r.tree, "/d"); !slices.Equal(got, []string{"in", "n"}) || len(names(t, r.tree, "/d/n")) != 0 {
		t.Error(got)
	}
	r = call(t, plant(t), "", "", "ln", "f", "d/g")
	a, _ := r.tree.Find(0, "f")
	b, _ := r.tree.Find(0, "d/g")
	if st, _ := r.tree.Stat(a); a != b || st.Links != 2 {
		t.Error(a, b, st)
	}
	for _, args := range [][]string{{"mkdir"}, {"mkdir", "a", "b"}, {"ln", "f"}, {"ln", "f", "g", "h"}} {
		r = call(t, plant(t), "", "", args...)
		if got := names(t, r.tree, "/"); len(got) != 13 {
			t.Error(args, got)
		}
	}
}

func TestReading(t *testing.T) { // P21.3: cat tells what a read answered ahead of its next read
	d := packed(t, nil)
	k, out := session(t, d, "echo x")
	if out[0] != "x\n$ " {
		t.Error(out)
	}
	for _, line := range []string{"cat\n", "ab\n", "cd\n", "\n"} {
		k.Input(line)
		settle(t, k, strings.TrimPrefix(line, "cat\n"))
	}
	if !strings.HasSuffix(k.Console(), "$ ab\ncd\n\n") {
		t.Errorf("%q", k.Console())
	}
}

func TestLost(t *testing.T) { // P21.3: what can't be written is lost
	for _, args := range []string{"echo_a_b", "cat_f", "cat_nix", "wc_f", "ls", "rm_nix", "mkdir", "ln"} {
		for _, first := range []string{"sys(8,1,0,0);", `sys(8,1,0,0);sys(7,"f",0,0);`, "sys(4,v,0,0);sys(8,v[0],0,0);sys(8,1,0,0);sys(9,v[1],0,0);v[0]=0;v[1]=0;"} {
			r := call(t, plant(t), first, "", strings.Split(args, "_")...)
			if r.out != "" || r.status != 0 && r.status != 1 {
				t.Errorf("%s: %q %d", args, r.out, r.status)
			}
		}
	}
}

// TestNothingWrong: no utility does what may not be.
func TestNothingWrong(t *testing.T) { // P21.5
	r := rand.New(rand.NewSource(1))
	words := []string{"", "f", "d", "nix", "/", ".", "..", "d/in", "long", "/d/../f", "xxxxxxxxxxxxxxxxxxxx", "~", "init", "-", "d/", "//f"}
	for range 150 {
		args := []string{Names()[r.Intn(7)]}
		for range r.Intn(8) {
			args = append(args, words[r.Intn(len(words))])
		}
		if args[0] == "cat" && len(args) == 1 || args[0] == "wc" && len(args) == 1 {
			continue
		}
		if got := call(t, plant(t), "", "", args...); got.status != 0 && got.status != 1 {
			t.Error(args, got.status)
		}
	}
	for _, name := range Names() { // as the first program, without any arguments
		d := packed(t, func(x *tree.Tree) {
			ok(t, x.Unlink(0, "init"))
			ok(t, x.Link(0, name, "init"))
		})
		k, e := kern.Boot(d, 64, 1)
		ok(t, e)
		for range 20000 {
			k.Run(0)
		}
		if row := k.Table()[0]; row.State == api.ProcDone && row.Status != 0 && row.Status != 1 {
			t.Error(name, row)
		}
	}
}

func TestShell(t *testing.T) { // P21.4
	says(t, plant(t),
		"", "", "   ", "", "|", "", "<f", "", "> n", "", "| cat f", "", "> n | echo a", "", "ls e", "", "ls n", "?\n", // a command without arguments
		"echo a b", "a b\n", "  echo   a   b  ", "a b\n", "echo a>n", "", "cat n", "a\n", "echo>n b c", "", "cat<n", "b c\n", "> n echo d", "", "cat <n", "d\n",
		"nix", "?\n", "nix a b", "?\n", "d", "?\n", "f", "?\n", "nix > n", "", "cat n", "?\n", "/echo a", "a\n", "./echo a", "a\n", "d/../echo a", "a\n",
		"cat < f", "one two\nthree", "cat<f>n", "", "wc < n", "1 3 13\n", "cat < nix", "", "cat < nix > n", "", "wc n", "0 0 0\n", "echo a > d", "", "echo a > nix/n", "",
		"cat f | wc", "1 3 13\n", "cat f|wc", "1 3 13\n", "cat long | cat", long, "cat long | wc", "120 240 2280\n", "echo a | nix", "?\n", "nix | cat", "?\n", "nix | nix", "?\n", "echo a |", "?\n", "echo a | cat | wc", "a\n", "echo a | > n", "", "cat n", "?\n",
		"echo a > n | wc", "0 0 0\n", "cat n", "a\n", "echo a | wc < f", "1 3 13\n", "echo a | cat > n", "", "cat n", "a\n", "echo x|cat|", "x\n",
		"echo a > n > m", "", "cat n", "a\n", "cat m", "a\n", "echo a > < f b", "a b\n", "echo q < > m", "", "cat m", "q\n", "cat > m < f", "", "cat m", "one two\nthree", "echo z >> m", "", "cat m", "z\n", "cat < nix < f", "one two\nthree", "echo > m > ", "", "cat m", "\n",
		"echo 1 2 3 4 5 6 7 8 9", "1 2 3 4 5 6 7\n", "echo a\tb", "a\tb\n", "echo a'\"b", "a'\"b\n", "echo a\x00b c", "a c\n", "echo \xff", "\xff\n",
	)
}

func TestLongLines(t *testing.T) { // P21.4: only the first 78 bytes count
	a := "echo " + strings.Repeat("x", 73)
	says(t, nil, a, a[5:]+"\n", a+"y", a[5:]+"\n", a+"yyyyyyyyyy > f", a[5:]+"\n", "echo "+strings.Repeat("x", 72)+" yes", strings.Repeat("x", 72)+"\n", "echo "+strings.Repeat("x", 71)+" yes", strings.Repeat("x", 71)+" y\n", strings.Repeat("z", 200), "?\n")
}

func TestCd(t *testing.T) { // P21.4
	says(t, plant(t),
		"cd d", "", "/ls", "in\n", "ls", "?\n", "cd", "", "/ls", "in\n", "cd nix", "", "cd in", "", "/ls", "in\n", "cd ..", "", "ls d", "in\n", "cdxyz d", "", "/ls", "in\n", "cd /e more", "", "/ls", "", "cd ../d > n", "", "/ls", "in\n", "cd /", "",
		" cd d", "?\n", "ls d", "in\n", "cd d | cat", "?\n", "ls e", "", "cd d < f", "", "/ls", "in\n", "cd<x ..", "", "ls e", "", "cd d|", "?\n", "ls e", "")
}

func TestShellInShell(t *testing.T) { // P21.4
	says(t, plant(t), "sh", "", "echo a", "a\n", "cd d", "", "/ls", "in\n")
	says(t, func(x *tree.Tree) { plant(t)(x); file(t, x, "/lines", "echo a | cat\nls e\ncd d\n/ls\n") }, "sh < lines", "$ a\n$ $ $ in\n$ ", "ls e", "", "sh < lines > n", "", "cat n", "$ a\n$ $ $ in\n$ ", "sh < nix", "$ ", "echo ls d | sh", "$ in\n$ ")
	// a shell that can print nowhere
	says(t, func(x *tree.Tree) {
		file(t, x, "/lines", "echo a | cat\necho b | cat > n\necho c > m\nwc < m | cat > k\n")
	}, "sh < lines > nix/x", "", "cat n m k", "b\nc\n1 1 2\n")
}

func TestShellInput(t *testing.T) { // P21.4: lines that are typed at once
	k, e := kern.Boot(packed(t, nil), 200, 2)
	ok(t, e)
	k.Input("echo a\necho b > f\ncat f\necho c | cat\n")
	for n := range 60000 {
		ok(t, k.Run(n%2))
		if n%64 == 63 {
			ok(t, k.Tick(n%2))
		}
	}
	if k.Console() != "$ a\n$ $ b\n$ c\n$ " {
		t.Errorf("%q", k.Console())
	}
}

// TestShellRuns: how many Runs of its own the shell makes.
func TestShellRuns(t *testing.T) { // P21.6
	k, e := kern.Boot(packed(t, plant(t)), 200, 1)
	ok(t, e)
	n := 0
	for ; !strings.HasSuffix(k.Console(), "$ "); n++ {
		k.Run(0)
	}
	if n > 5000 {
		t.Error("first prompt", n)
	}
	settle(t, k, "$ ")
	for _, line := range []string{"", "echo a", "echo a b c d e f g h i j k | cat > n", strings.Repeat("x ", 39), strings.Repeat("y", 78), strings.Repeat("|", 200), "cd d", "nix"} {
		own := 0
		before := strings.Count(k.Console(), "$ ")
		k.Input(line + "\n")
		for range 200000 {
			if strings.Count(k.Console(), "$ ") > before {
				break
			}
			h, _ := k.Regs(0)
			k.Run(0)
			if after, _ := k.Regs(0); after != h {
				own++
			}
		}
		if own > 5000+400*len(line) || strings.Count(k.Console(), "$ ") == before {
			t.Errorf("%q: %d", line, own)
		}
		settle(t, k, "$ ")
	}
}

// TestLeftBehind: processes that a program leaves, and that end behind it, are not in the way.
func TestLeftBehind(t *testing.T) {
	bomb := fmt.Sprintf("int main(){int i=0;while(i<9){i=i+1;if(sys(2,0,0,0)<0)exit(%d);}}", 3)
	says(t, func(x *tree.Tree) { plant(t)(x); file(t, x, "/bomb", compiled(t, bomb)) }, "bomb", "", "cat f | wc", "1 3 13\n", "echo a", "a\n", "bomb", "", "echo a | cat", "a\n", "bomb | bomb", "", "cat f | wc", "1 3 13\n")
}
