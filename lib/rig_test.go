package lib

import (
	"fmt"
	"slices"
	"strings"
	"testing"

	"binnacle/api"
	"binnacle/disk"
	"binnacle/front"
	"binnacle/gen"
	"binnacle/kern"
	"binnacle/prog"
	"binnacle/tree"
)

func ok(t *testing.T, e api.Errno) {
	t.Helper()
	if e != api.OK {
		t.Fatal(e)
	}
}

// packed is a disk with the programs, and what else is done to its tree.
func packed(t *testing.T, more func(x *tree.Tree)) *disk.Disk {
	t.Helper()
	d, e := disk.New(500)
	ok(t, e)
	ok(t, Pack(d))
	x, e := tree.Mount(d)
	ok(t, e)
	if more != nil {
		more(x)
	}
	return d
}

// file makes a file.
func file(t *testing.T, x *tree.Tree, path, s string) {
	t.Helper()
	n, e := x.Make(0, path, api.KindFile)
	ok(t, e)
	for off := 0; off < len(s); off += api.MaxWrite {
		ok(t, x.Write(n, off, s[off:min(off+api.MaxWrite, len(s))]))
	}
}

// caller is a program that begins another one, with other descriptors if asked for, and ends with its status.
func caller(t *testing.T, first string, args []string) string {
	t.Helper()
	s := "int v[10];int s[1];int main(){if(sys(2,0,0,0)==0){" + first
	for i, a := range args {
		s += fmt.Sprintf("v[%d]=adr(\"%s\");", i, strings.NewReplacer("\\", "\\\\", "\"", "\\\"", "\n", "\\n").Replace(a))
	}
	s += fmt.Sprintf("sys(10,%q,v,0);exit(126);}sys(3,s,0,0);exit(s[0]);}", "/"+args[0])
	return compiled(t, s)
}

// result is what a program came to.
type result struct {
	out    string
	status int
	runs   int
	tree   *tree.Tree
}

// call runs a utility under the kernel, by that name and these arguments.
func call(t *testing.T, more func(x *tree.Tree), first, in string, args ...string) result {
	t.Helper()
	d := packed(t, func(x *tree.Tree) {
		if more != nil {
			more(x)
		}
		ok(t, x.Unlink(0, "/init"))
		file(t, x, "/init", caller(t, first, args))
	})
	k, e := kern.Boot(d, 100, 1)
	ok(t, e)
	k.Input(in)
	n := 0
	for ; k.Table()[0].State == api.ProcLive && n < 2000000; n++ {
		k.Run(0)
	}
	x, e := tree.Mount(d)
	ok(t, e)
	return result{k.Console(), k.Table()[0].Status, n, x}
}

// names are those of a directory.
func names(t *testing.T, x *tree.Tree, path string) []string {
	t.Helper()
	n, e := x.Find(0, path)
	ok(t, e)
	list, e := x.List(n)
	ok(t, e)
	return list
}

// content is that of a file.
func content(t *testing.T, x *tree.Tree, path string) string {
	t.Helper()
	n, e := x.Find(0, path)
	if e != api.OK {
		return fmt.Sprint("no ", path)
	}
	s, e := x.Read(n, 0, 9999)
	ok(t, e)
	return s
}

// session is a kernel whose shell has done these lines, each typed when it waits for it: what each printed, with the prompt behind.
func session(t *testing.T, d *disk.Disk, lines ...string) (*kern.Kernel, []string) {
	t.Helper()
	k, e := kern.Boot(d, 200, 1)
	ok(t, e)
	settle(t, k, "$ ")
	var out []string
	for _, line := range lines {
		before := len(k.Console())
		if k.Input(line+"\n") != len(line)+1 {
			t.Fatal("typed too much")
		}
		settle(t, k, "$ ")
		out = append(out, k.Console()[before:])
	}
	return k, out
}

// settle runs a kernel till nothing happens any more: all processes wait; what was printed has to end so.
func settle(t *testing.T, k *kern.Kernel, end string) {
	t.Helper()
	still := 0
	for n := 0; still < 200; n++ {
		if n > 3000000 {
			t.Fatal("it goes on and on", k.Console())
		}
		before := k.On(0)
		ok(t, k.Run(0))
		if still++; k.On(0) != -1 || before != -1 {
			still = 0
		}
		if n%50 == 49 {
			k.Tick(0)
		}
	}
	if !strings.HasSuffix(k.Console(), end) {
		t.Fatalf("%q", k.Console())
	}
}

// says fails, unless the lines print that, each with the prompt behind.
func says(t *testing.T, more func(x *tree.Tree), pairs ...string) *disk.Disk {
	t.Helper()
	d := packed(t, more)
	var lines, want []string
	for i := 0; i < len(pairs); i += 2 {
		lines, want = append(lines, pairs[i]), append(want, pairs[i+1]+"$ ")
	}
	if _, out := session(t, d, lines...); !slices.Equal(out, want) {
		for i, line := range lines {
			if out[i] != want[i] {
				t.Errorf("%q printed %q, not %q", line, out[i], want[i])
			}
		}
	}
	return d
}

// compiled is the file of a source's program.
func compiled(t *testing.T, s string) string {
	t.Helper()
	x, e, at := front.Parse(s)
	if e != api.OK {
		t.Fatal(s, at)
	}
	p, e := gen.Compile(x)
	ok(t, e)
	out, e := prog.Encode(p)
	ok(t, e)
	return out
}
