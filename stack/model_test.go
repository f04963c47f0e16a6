package stack

import (
	"fmt"
	"slices"
	"strings"
	"testing"

	"binnacle/api"
	"binnacle/disk"
	"binnacle/front"
	"binnacle/gen"
	"binnacle/lib"
	"binnacle/prog"
	"binnacle/tree"
)

func ok(t *testing.T, e api.Errno) {
	t.Helper()
	if e != api.OK {
		t.Fatal(e)
	}
}

// model is what chapter 21 says of the shell and the utilities, done to a tree of its own.
type model struct {
	t   *testing.T
	x   *tree.Tree
	cwd int
}

func newModel(t *testing.T, sectors int) *model {
	t.Helper()
	d, e := disk.New(sectors)
	ok(t, e)
	ok(t, lib.Pack(d))
	x, e := tree.Mount(d)
	ok(t, e)
	return &model{t, x, 0}
}

// command is one, cut into its words.
type command struct {
	args    []string
	in, out string
	hasIn   bool
	hasOut  bool
}

func cut(s string) command {
	var c command
	mark := byte(0)
	for s != "" {
		if s[0] == ' ' {
			s = s[1:]
			continue
		}
		if s[0] == '<' || s[0] == '>' {
			mark, s = s[0], s[1:]
			continue
		}
		n := strings.IndexAny(s, " <>")
		if n < 0 {
			n = len(s)
		}
		word := s[:n]
		s = s[n:]
		switch {
		case mark == '<':
			c.in, c.hasIn = word, true
		case mark == '>':
			c.out, c.hasOut = word, true
		case len(c.args) < 8:
			c.args = append(c.args, word)
		}
		mark = 0
	}
	return c
}

// line does one: what it prints.
func (m *model) line(s string) string {
	s = s[:min(len(s), 78)]
	parts := strings.Split(s, "|")
	first := cut(parts[0])
	if len(first.args) == 0 {
		return ""
	}
	if len(parts) == 1 {
		if strings.HasPrefix(s, "cd") {
			if len(first.args) > 1 {
				n, e := m.x.Find(m.cwd, first.args[1])
				if st, _ := m.x.Stat(n); e == api.OK && st.Kind == api.KindDir {
					m.cwd = n
				}
			}
			return ""
		}
		return m.do(first, "")
	}
	return m.do(cut(parts[1]), m.do(first, ""))
}

// all are an inode's bytes.
func (m *model) all(n int) string {
	s, e := m.x.Read(n, 0, 9999)
	ok(m.t, e)
	return s
}

// do does a command: what it prints, as far as that isn't lost or goes elsewhere.
func (m *model) do(c command, in string) string {
	if c.hasIn {
		in = ""
		if n, e := m.x.Find(m.cwd, c.in); e == api.OK {
			in = m.all(n)
		}
	}
	to, lost := 0, false
	if c.hasOut {
		n, e := m.x.Find(m.cwd, c.out)
		if e == api.ErrNone {
			n, e = m.x.Make(m.cwd, c.out, api.KindFile)
		}
		if e == api.OK {
			e = m.x.Cut(n)
		}
		to, lost = n, e != api.OK
	}
	out := m.program(c.args, in)
	if !c.hasOut {
		return out
	}
	for off := 0; off < len(out) && !lost; off += 64 {
		ok(m.t, m.x.Write(to, off, out[off:min(off+64, len(out))]))
	}
	return ""
}

// program is what the program of that path prints.
func (m *model) program(args []string, in string) string {
	if len(args) == 0 {
		return "?\n"
	}
	n, e := m.x.Find(m.cwd, args[0])
	if e != api.OK {
		return "?\n"
	}
	st, _ := m.x.Stat(n)
	for i, name := range lib.Names() {
		if n == i+1 && st.Kind == api.KindFile { // as they were packed
			return m.utility(name, args[1:], in)
		}
	}
	return "?\n"
}

func (m *model) utility(name string, args []string, in string) string {
	refused := func(e api.Errno) string {
		if e != api.OK {
			return "?\n"
		}
		return ""
	}
	switch name {
	case "echo":
		return strings.Join(args, " ") + "\n"
	case "cat":
		if len(args) == 0 {
			return in
		}
		out := ""
		for _, a := range args {
			n, e := m.x.Find(m.cwd, a)
			if e != api.OK {
				return out + "cat: " + a + "?\n"
			}
			out += m.all(n)
		}
		return out
	case "wc":
		if len(args) > 0 {
			n, e := m.x.Find(m.cwd, args[0])
			if e != api.OK {
				return "?\n"
			}
			in = m.all(n)
		}
		words := strings.FieldsFunc(in, func(r rune) bool { return r == ' ' || r == '\n' })
		return fmt.Sprintln(strings.Count(in, "\n"), len(words), len(in))
	case "rm":
		for _, a := range args {
			if e := m.x.Unlink(m.cwd, a); e != api.OK {
				return "?\n"
			}
		}
		return ""
	case "mkdir":
		if len(args) != 1 {
			return "?\n"
		}
		_, e := m.x.Make(m.cwd, args[0], api.KindDir)
		return refused(e)
	case "ln":
		if len(args) != 2 {
			return "?\n"
		}
		return refused(m.x.Link(m.cwd, args[0], args[1]))
	}
	return m.ls(args)
}

func (m *model) ls(args []string) string {
	path := "."
	if len(args) > 0 {
		path = args[0]
	}
	n, e := m.x.Find(m.cwd, path)
	if e != api.OK {
		return "?\n"
	}
	names, _ := m.x.List(n)
	out := ""
	for _, name := range names {
		out += name + "\n"
	}
	return out
}

// dump tells all that a tree has, by paths.
func dump(t *testing.T, x *tree.Tree) string {
	t.Helper()
	var lines []string
	var visit func(n int, path string)
	visit = func(n int, path string) {
		st, e := x.Stat(n)
		ok(t, e)
		if st.Kind == api.KindFile {
			s, e := x.Read(n, 0, 9999)
			ok(t, e)
			lines = append(lines, fmt.Sprintf("%s %d %q", path, st.Links, s))
			return
		}
		lines = append(lines, path+"/")
		names, e := x.List(n)
		ok(t, e)
		for _, name := range names {
			k, e := x.Find(n, name)
			ok(t, e)
			visit(k, path+"/"+name)
		}
	}
	visit(0, "")
	slices.Sort(lines)
	return strings.Join(lines, "\n")
}

// dumpImage is the dump of a disk with these sectors, as it is found there.
func dumpImage(t *testing.T, image []string) string {
	t.Helper()
	d, e := disk.Of(image)
	ok(t, e)
	x, e := tree.Mount(d)
	ok(t, e)
	return dump(t, x)
}

// echoProgram is the file of a program that prints what is typed.
func echoProgram(t *testing.T) string {
	t.Helper()
	x, e, _ := front.Parse("int main(){while(1)put(get());}")
	ok(t, e)
	p, e := gen.Compile(x)
	ok(t, e)
	s, e := prog.Encode(p)
	ok(t, e)
	return s
}
