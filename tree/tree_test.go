package tree

import (
	"fmt"
	"math/rand"
	"slices"
	"strings"
	"testing"

	"binnacle/api"
	"binnacle/disk"
)

func ok(t *testing.T, e api.Errno) {
	t.Helper()
	if e != api.OK {
		t.Fatal(e)
	}
}

func is(t *testing.T, what any, e, want api.Errno) {
	t.Helper()
	if e != want {
		t.Errorf("%v: %d, not %d", what, e, want)
	}
}

func fresh(t *testing.T, sectors int) (*disk.Disk, *Tree) {
	t.Helper()
	d, e := disk.New(sectors)
	ok(t, e)
	x, e := Format(d)
	ok(t, e)
	return d, x
}

// dump tells all that a tree has, by paths; each inode's number is left out.
func dump(t *testing.T, x *Tree) string {
	t.Helper()
	var lines []string
	var visit func(n int, path string)
	visit = func(n int, path string) {
		st, e := x.Stat(n)
		ok(t, e)
		if st.Kind == api.KindFile {
			s, e := x.Read(n, 0, 9999)
			ok(t, e)
			lines = append(lines, fmt.Sprintf("%s %d %q", path, st.Links, s))
			return
		}
		lines = append(lines, path+"/")
		names, e := x.List(n)
		ok(t, e)
		for _, name := range names {
			k, e := x.Find(n, name)
			ok(t, e)
			visit(k, path+"/"+name)
		}
	}
	visit(0, "")
	slices.Sort(lines)
	return strings.Join(lines, "\n")
}

// used is how many inodes aren't free.
func used(x *Tree) int {
	n := 0
	for i := range 32 {
		if _, e := x.Stat(i); e == api.OK {
			n++
		}
	}
	return n
}

func TestNil(t *testing.T) { // chapter 9's promises
	var x *Tree
	_, e1 := x.Find(0, "/")
	_, e2 := x.Make(0, "/a", 1)
	_, e3 := x.Stat(0)
	_, e4 := x.Read(0, 0, 0)
	_, e5 := x.List(0)
	for i, e := range []api.Errno{e1, e2, e3, e4, e5, x.Link(0, "a", "b"), x.Unlink(0, "a"), x.Write(0, 0, ""), x.Cut(0), x.Hold(0), x.Drop(0)} {
		is(t, i, e, api.ErrArg)
	}
	y, e := Format(nil)
	z, f := Mount(nil)
	if y != nil || z != nil || e != api.ErrArg || f != api.ErrArg {
		t.Error(e, f)
	}
}

func TestFormat(t *testing.T) { // P9.1
	d, x := fresh(t, 48)
	st, e := x.Stat(0)
	s, f := x.Read(0, 0, 99)
	if st != (api.Stat{Kind: 2, Links: 1, Size: 16}) || s != "\x01\x00.."+strings.Repeat("\x00", 12) || e != api.OK || f != api.OK {
		t.Errorf("%v %q", st, s)
	}
	if names, e := x.List(0); len(names) != 0 || e != api.OK || d.Waiting() != 0 {
		t.Error(names)
	}
	ok(t, d.Write(1, strings.Repeat("x", 64)))
	ok(t, d.Flush())
	y, e := Format(d)
	z, f := Mount(d)
	if y != nil || z != nil || e != api.ErrForm || f != api.ErrForm {
		t.Error("no log", e, f)
	}
	d, _ = disk.New(48)
	if y, e := Mount(d); y != nil || e != api.ErrForm {
		t.Error("no volume", e)
	}
	for power := range 30 {
		d, _ := disk.New(48)
		d.Power(power)
		if y, e := Format(d); e == api.OK {
			break
		} else if y != nil || e != api.ErrDead {
			t.Error(power, e)
		}
		d.Crash(0)
		if y, e := Mount(d); e == api.OK && dump(t, y) != "/" {
			t.Error(power)
		}
	}
	d, x = fresh(t, 48)
	_, e = x.Make(0, "a", 1)
	ok(t, e)
	x, e = Format(d)
	ok(t, e)
	if dump(t, x) != "/" || used(x) != 1 {
		t.Error("formatted again")
	}
}

func TestExamples(t *testing.T) {
	_, x := fresh(t, 100)
	n, e := x.Make(0, "/a", api.KindDir)
	m, f := x.Make(1, "b", api.KindFile)
	if n != 1 || m != 2 || e != api.OK || f != api.OK {
		t.Error(n, m, e, f)
	}
	if n, e := x.Find(0, "a/../a/./b"); n != 2 || e != api.OK {
		t.Error(n, e)
	}
	ok(t, x.Link(0, "a/b", "c"))
	if names, _ := x.List(0); !slices.Equal(names, []string{"a", "c"}) {
		t.Error(names)
	}
	is(t, "a", x.Unlink(0, "a"), api.ErrBusy)
	ok(t, x.Unlink(1, "b"))
	is(t, "/a/..", x.Unlink(0, "/a/.."), api.ErrName)
	if st, _ := x.Stat(2); st != (api.Stat{Kind: 1, Links: 1}) {
		t.Error(st)
	}
	ok(t, x.Hold(2))
	ok(t, x.Unlink(0, "c"))
	if st, e := x.Stat(2); st != (api.Stat{Kind: 1}) || e != api.OK {
		t.Error(st, e)
	}
	ok(t, x.Drop(2))
	if _, e := x.Stat(2); e != api.ErrNone {
		t.Error(e)
	}
}

// plot is a tree with: 1 /d, 2 /d/e, 3 /f, 4 /d/g.
func plot(t *testing.T) (*disk.Disk, *Tree) {
	t.Helper()
	d, x := fresh(t, 120)
	for i, p := range []string{"/d", "/d/e", "f", "d/g"} {
		n, e := x.Make(0, p, []int{2, 2, 1, 1}[i])
		if e != api.OK || n != i+1 {
			t.Fatal(p, n, e)
		}
	}
	ok(t, x.Write(3, 0, "hello"))
	return d, x
}

func TestFind(t *testing.T) { // P9.2
	_, x := plot(t)
	long := strings.Repeat("x", 15)
	for _, c := range []struct {
		from int
		path string
		n    int
		e    api.Errno
	}{
		{0, "/", 0, 0}, {0, "//", 0, 0}, {0, ".", 0, 0}, {0, "..", 0, 0}, {1, "..", 0, 0}, {2, "..", 1, 0}, {2, "../..", 0, 0}, {2, "../../../..", 0, 0}, {2, ".", 2, 0}, {1, "e", 2, 0}, {0, "d//e/", 2, 0}, {0, "f/", 3, 0}, {2, "../g", 4, 0}, {2, "/f", 3, 0}, {99, "/f", 3, 0}, {-1, "/", 0, 0}, {3, "/d/./e/../g", 4, 0},
		{0, "", 0, api.ErrName}, {99, "", 0, api.ErrName}, {0, "a\x00", 0, api.ErrName}, {99, "a\x00", 0, api.ErrName}, {0, strings.Repeat("/", 128), 0, 0}, {0, strings.Repeat("/", 129), 0, api.ErrName},
		{3, ".", 0, api.ErrArg}, {3, "f", 0, api.ErrArg}, {9, "f", 0, api.ErrArg}, {32, "f", 0, api.ErrArg}, {-1, "f", 0, api.ErrArg}, {1 << 60, "f", 0, api.ErrArg},
		{0, "f/.", 0, api.ErrNotDir}, {0, "f/..", 0, api.ErrNotDir}, {0, "f/" + long, 0, api.ErrNotDir}, {0, "f/x", 0, api.ErrNotDir}, {0, "d/g/x", 0, api.ErrNotDir},
		{0, long, 0, api.ErrName}, {0, "d/" + long, 0, api.ErrName}, {0, "nix/" + long, 0, api.ErrNone}, {0, long[:14], 0, api.ErrNone}, {0, "nix", 0, api.ErrNone}, {0, "d/f", 0, api.ErrNone}, {0, "...", 0, api.ErrNone}, {0, "\xff", 0, api.ErrNone}, {0, "D", 0, api.ErrNone},
	} {
		if n, e := x.Find(c.from, c.path); n != c.n || e != c.e {
			t.Errorf("%d %q: %d %d", c.from, c.path, n, e)
		}
	}
}

func TestMake(t *testing.T) { // P9.3
	_, x := plot(t)
	long := strings.Repeat("x", 15)
	before := dump(t, x)
	for _, c := range []struct {
		from int
		path string
		kind int
		e    api.Errno
	}{
		{99, "", 0, api.ErrArg}, {0, "n", 3, api.ErrArg}, {0, "n", -1, api.ErrArg}, {0, "", 1, api.ErrName}, {99, "", 1, api.ErrName}, {0, strings.Repeat("/", 128) + "n", 1, api.ErrName}, {0, "n\x00", 1, api.ErrName}, {99, "n", 1, api.ErrArg}, {3, "n", 1, api.ErrArg},
		{0, "f/x/n", 1, api.ErrNotDir}, {0, "f/n", 1, api.ErrNotDir}, {0, "f/..", 1, api.ErrNotDir}, {0, "nix/n", 1, api.ErrNone}, {0, long + "/n", 1, api.ErrName}, {0, "nix/" + long, 1, api.ErrNone},
		{0, "/", 1, api.ErrName}, {0, "///", 2, api.ErrName}, {0, ".", 1, api.ErrName}, {0, "d/..", 1, api.ErrName}, {0, "d/.", 1, api.ErrName}, {0, long, 1, api.ErrName}, {0, "d/" + long, 2, api.ErrName},
		{0, "d", 1, api.ErrThere}, {0, "d/e/", 2, api.ErrThere}, {2, "../g", 1, api.ErrThere},
	} {
		if n, e := x.Make(c.from, c.path, c.kind); n != 0 || e != c.e {
			t.Errorf("%d %q %d: %d %d", c.from, c.path, c.kind, n, e)
		}
	}
	if dump(t, x) != before || used(x) != 5 {
		t.Error("something changed")
	}
	n, e := x.Make(2, "../../n/", api.KindDir)
	st, f := x.Stat(n)
	s, _ := x.Read(n, 0, 99)
	if n != 5 || e != api.OK || f != api.OK || st != (api.Stat{Kind: 2, Links: 1, Size: 16}) || s != "\x01\x00.."+strings.Repeat("\x00", 12) {
		t.Errorf("%d %d %v %q", n, e, st, s)
	}
	n, e = x.Make(5, long[:14], api.KindFile)
	if st, _ := x.Stat(n); n != 6 || e != api.OK || st != (api.Stat{Kind: 1, Links: 1}) {
		t.Error(n, e)
	}
	if s, _ := x.Read(5, 16, 99); s != "\x07\x00"+long[:14] {
		t.Errorf("%q", s)
	}
}

func TestEntries(t *testing.T) { // P9.3: the first free entry, the least free inode
	_, x := fresh(t, 100)
	for i := range 5 {
		_, e := x.Make(0, string(rune('a'+i)), 1)
		ok(t, e)
	}
	ok(t, x.Unlink(0, "d"))
	ok(t, x.Unlink(0, "b"))
	if s, _ := x.Read(0, 32, 16); s != strings.Repeat("\x00", 16) {
		t.Errorf("a free entry: %q", s)
	}
	n, e := x.Make(0, "z", 1)
	m, f := x.Make(0, "y", 1)
	k, g := x.Make(0, "x", 1)
	if n != 2 || m != 4 || k != 6 || e != api.OK || f != api.OK || g != api.OK {
		t.Error(n, m, k)
	}
	if names, _ := x.List(0); !slices.Equal(names, []string{"a", "z", "c", "y", "e", "x"}) {
		t.Error(names)
	}
}

func TestFull(t *testing.T) { // P9.3, P9.4
	_, x := fresh(t, 200)
	for i := 1; i < 32; i++ {
		_, e := x.Make(0, fmt.Sprint(i), 1)
		ok(t, e)
	}
	before := dump(t, x)
	_, e := x.Make(0, "more", 1)
	_, f := x.Make(0, "1", 1)
	is(t, "no inode", e, api.ErrFull)
	is(t, "there", f, api.ErrThere)
	if dump(t, x) != before {
		t.Error("something changed")
	}
	for i := 32; i < 148; i++ {
		ok(t, x.Link(0, "1", fmt.Sprint(i)))
	}
	ok(t, x.Unlink(0, "2"))
	ok(t, x.Link(0, "3", "two"))
	before = dump(t, x)
	is(t, "a directory of MaxFile bytes", x.Link(0, "1", "more"), api.ErrFull)
	_, e = x.Make(0, "more", 1)
	_, f = x.Make(0, "more", 2)
	is(t, "a directory of MaxFile bytes", e, api.ErrFull)
	is(t, "a directory of MaxFile bytes", f, api.ErrFull)
	if dump(t, x) != before || used(x) != 31 {
		t.Error("something changed")
	}
}

func TestNoRoom(t *testing.T) { // P9.3: a disk of which each sector is had
	_, x := fresh(t, 48)
	n, e := x.Make(0, "a", 1)
	ok(t, e)
	ok(t, x.Write(n, 0, strings.Repeat("x", 320)))
	is(t, "two sectors", x.Write(n, 320, "y"), api.ErrFull)
	_, e = x.Make(0, "d", 2)
	ok(t, e)
	before := dump(t, x)
	_, e = x.Make(0, "e", 2)
	is(t, "no sector for its entries", e, api.ErrFull)
	if dump(t, x) != before || used(x) != 3 {
		t.Error("something changed")
	}
	_, e = x.Make(0, "b", 1)
	ok(t, e)
	before = dump(t, x)
	_, e = x.Make(0, "c", 1) // the directory's first sector has four entries
	is(t, "no sector for an entry", e, api.ErrFull)
	is(t, "no sector for an entry", x.Link(0, "a", "c"), api.ErrFull)
	if dump(t, x) != before || used(x) != 4 {
		t.Error("something changed")
	}
	ok(t, x.Link(0, "a", "d/c"))
}

func TestLink(t *testing.T) { // P9.4
	_, x := plot(t)
	long := strings.Repeat("x", 15)
	before := dump(t, x)
	for _, c := range []struct {
		from      int
		old, path string
		e         api.Errno
	}{
		{0, "", "", api.ErrName}, {99, "f", "", api.ErrArg}, {0, "nix", "", api.ErrNone}, {0, long, "", api.ErrName}, {0, "f/x", "", api.ErrNotDir}, {0, "d", "", api.ErrIsDir}, {0, "/", "n", api.ErrIsDir}, {0, "f", "", api.ErrName}, {0, "f", "n\x00", api.ErrName}, {99, "/f", "", api.ErrName}, {99, "/f", "n", api.ErrArg}, {3, "/f", "n", api.ErrArg},
		{0, "f", "nix/n", api.ErrNone}, {0, "f", "f/n", api.ErrNotDir}, {0, "f", "/", api.ErrName}, {0, "f", "d/.", api.ErrName}, {0, "f", "d/" + long, api.ErrName}, {0, "f", "d", api.ErrThere}, {0, "f", "f", api.ErrThere}, {0, "f", "d/g", api.ErrThere},
	} {
		is(t, c, x.Link(c.from, c.old, c.path), c.e)
	}
	if dump(t, x) != before {
		t.Error("something changed")
	}
	ok(t, x.Link(2, "../../f", "f"))
	ok(t, x.Link(99, "/f", "/d/f"))
	if st, _ := x.Stat(3); st.Links != 3 {
		t.Error(st)
	}
	if n, _ := x.Find(0, "d/e/f"); n != 3 {
		t.Error(n)
	}
}

func TestManyLinks(t *testing.T) { // P9.4: 255 links
	_, x := fresh(t, 300)
	_, e := x.Make(0, "f", 1)
	ok(t, e)
	_, e = x.Make(0, "d", 2)
	ok(t, e)
	for i := 1; i < 255; i++ {
		ok(t, x.Link(0, "f", fmt.Sprintf("%s%d", []string{"", "d/"}[i%2], i)))
	}
	is(t, "there", x.Link(0, "f", "d/1"), api.ErrThere)
	is(t, "many", x.Link(0, "f", "d/more"), api.ErrMany)
	st, _ := x.Stat(1)
	if st.Links != 255 {
		t.Error(st)
	}
	ok(t, x.Unlink(0, "d/1"))
	ok(t, x.Link(0, "f", "d/more"))
}

func TestUnlink(t *testing.T) { // P9.4
	_, x := plot(t)
	long := strings.Repeat("x", 15)
	ok(t, x.Hold(2))
	before := dump(t, x)
	for _, c := range []struct {
		from int
		path string
		e    api.Errno
	}{
		{0, "", api.ErrName}, {99, "f", api.ErrArg}, {3, "f", api.ErrArg}, {0, "nix/f", api.ErrNone}, {0, "f/x", api.ErrNotDir}, {0, "f/..", api.ErrNotDir}, {0, "f/g/x", api.ErrNotDir}, {0, "/", api.ErrName}, {0, "..", api.ErrName}, {0, ".", api.ErrName}, {0, "d/..", api.ErrName}, {0, "d/.", api.ErrName}, {0, long, api.ErrName}, {0, "nix", api.ErrNone}, {0, "d/f", api.ErrNone}, {0, "d", api.ErrBusy}, {0, "d/e", api.ErrBusy},
	} {
		is(t, c, x.Unlink(c.from, c.path), c.e)
	}
	if dump(t, x) != before {
		t.Error("something changed")
	}
	ok(t, x.Drop(2))
	ok(t, x.Unlink(2, "../e"))
	is(t, "d", x.Unlink(0, "d"), api.ErrBusy)
	ok(t, x.Unlink(0, "/d/g"))
	ok(t, x.Unlink(0, "d"))
	if dump(t, x) != "/\n/f 1 \"hello\"" || used(x) != 2 {
		t.Error(dump(t, x), used(x))
	}
}

func TestFiles(t *testing.T) { // P9.5
	_, x := plot(t)
	for _, c := range []struct {
		n int
		e api.Errno
	}{{-1, api.ErrArg}, {32, api.ErrArg}, {9, api.ErrNone}} {
		st, e1 := x.Stat(c.n)
		s, e2 := x.Read(c.n, -1, -1)
		names, e3 := x.List(c.n)
		for i, e := range []api.Errno{e1, e2, e3, x.Write(c.n, -1, ""), x.Cut(c.n), x.Hold(c.n), x.Drop(c.n)} {
			is(t, fmt.Sprint(c.n, i), e, c.e)
		}
		if st != (api.Stat{}) || s != "" || names != nil {
			t.Error("with an error nothing is told")
		}
	}
	before := dump(t, x)
	is(t, "a directory", x.Write(1, -1, ""), api.ErrIsDir)
	is(t, "a directory", x.Cut(1), api.ErrIsDir)
	is(t, "behind", x.Write(3, 6, ""), api.ErrArg)
	is(t, "too long", x.Write(3, 0, strings.Repeat("x", 513)), api.ErrArg)
	_, e := x.List(3)
	is(t, "a file", e, api.ErrNotDir)
	_, e = x.Read(3, 0, -1)
	is(t, "below 0", e, api.ErrArg)
	if dump(t, x) != before {
		t.Error("something changed")
	}
	ok(t, x.Write(3, 2, "LLo!"))
	if s, e := x.Read(3, 1, 9); s != "eLLo!" || e != api.OK {
		t.Errorf("%q", s)
	}
	ok(t, x.Cut(3))
	ok(t, x.Cut(3))
	if st, _ := x.Stat(3); st != (api.Stat{Kind: 1, Links: 1}) {
		t.Error(st)
	}
	if names, _ := x.List(1); !slices.Equal(names, []string{"e", "g"}) {
		t.Error(names)
	}
}

func TestHold(t *testing.T) { // P9.6, P9.1
	d, x := plot(t)
	is(t, "not held", x.Drop(3), api.ErrArg)
	ok(t, x.Hold(3))
	ok(t, x.Hold(3))
	ok(t, x.Link(0, "f", "d/f"))
	ok(t, x.Unlink(0, "f"))
	ok(t, x.Unlink(0, "d/f"))
	ok(t, x.Drop(3))
	if s, e := x.Read(3, 0, 9); s != "hello" || e != api.OK {
		t.Error(s, e)
	}
	ok(t, x.Write(3, 5, "!"))
	d.Crash(0)
	y, e := Mount(d)
	ok(t, e)
	if _, e := y.Stat(3); e != api.ErrNone {
		t.Error("an orphan", e)
	}
	d, x = plot(t)
	ok(t, x.Hold(3))
	ok(t, x.Unlink(0, "f"))
	ok(t, x.Drop(3))
	is(t, "gone", x.Drop(3), api.ErrNone)
	ok(t, x.Hold(4))
	ok(t, x.Drop(4))
	if _, e := x.Stat(4); e != api.OK {
		t.Error("it has a link", e)
	}
	x, e = Mount(d)
	ok(t, e)
	is(t, "nothing is held", x.Drop(4), api.ErrArg)
}

func TestOrphans(t *testing.T) { // P9.1: each by a commit of its own
	d, x := plot(t)
	ok(t, x.Hold(3))
	ok(t, x.Hold(4))
	ok(t, x.Unlink(0, "f"))
	ok(t, x.Unlink(0, "d/g"))
	want := dump(t, x)
	for power := range 60 {
		c, _ := disk.Of(d.Image())
		c.Power(power)
		y, e := Mount(c)
		if e != api.OK {
			if y != nil || e != api.ErrDead {
				t.Fatal(e)
			}
			c.Crash(^uint64(0))
			if y, e = Mount(c); e != api.OK {
				t.Fatal(power, e)
			}
		}
		if dump(t, y) != want || used(y) != 3 {
			t.Error(power)
		}
	}
}

func TestDead(t *testing.T) { // chapter 9's promises
	d, x := plot(t)
	d.Power(0)
	is(t, "not dead yet", x.Write(9, 0, ""), api.ErrNone)
	is(t, "Write", x.Write(3, 0, "x"), api.ErrDead)
	d.Crash(0)
	n, e1 := x.Find(0, "")
	m, e2 := x.Make(0, "", 9)
	st, e3 := x.Stat(-1)
	s, e4 := x.Read(3, 0, 5)
	names, e5 := x.List(-1)
	for i, e := range []api.Errno{e1, e2, e3, e4, e5, x.Link(0, "", ""), x.Unlink(0, ""), x.Write(3, 0, ""), x.Cut(-1), x.Hold(-1), x.Drop(-1)} {
		is(t, i, e, api.ErrDead)
	}
	if n != 0 || m != 0 || st != (api.Stat{}) || s != "" || names != nil {
		t.Error("with an error nothing is told")
	}
	d, x = plot(t)
	d.Power(0)
	d.Flush() // off: a call that reads alone is answered so, too
	_, e := x.Read(3, 0, 5)
	is(t, "Read", e, api.ErrDead)
	d.Crash(0)
	_, e = x.Stat(3)
	is(t, "dead by a read", e, api.ErrDead)
}

// TestWhole: each of these changes makes the tree one that isn't whole.
func TestWhole(t *testing.T) { // P9.1
	inode := func(n int) int { return 33*64 + 16*n }
	base, x := plot(t)
	ok(t, x.Link(0, "f", "d/e/h")) // 3 has two links
	image := strings.Join(base.Image(), "")
	sector := func(n int) int { return 64 * (32 + int(image[inode(n)+4])) } // a directory's first
	mount := func(s string) (*Tree, api.Errno) {
		var rows []string
		for i := 0; i < len(s); i += 64 {
			rows = append(rows, s[i:i+64])
		}
		d, e := disk.Of(rows)
		ok(t, e)
		return Mount(d)
	}
	put := func(s string, at int, row string) string { return s[:at] + row + s[at+len(row):] }
	y, e := mount(image)
	ok(t, e)
	if dump(t, y) != dump(t, x) {
		t.Error("Mount finds the same")
	}
	root, d, sub := sector(0), sector(1), sector(2)
	row := func(at, i int) string { return image[at+16*i : at+16*i+16] }
	for i, s := range []string{
		put(image, inode(0)+1, "\x02"),               // the root's links
		put(image, inode(0), "\x01"),                 // a file as the root
		put(image, inode(0)+2, "\x2f"),               // no multiple of 16
		put(image, inode(0)+2, "\x20"),               // an entry less
		put(image, inode(3)+1, "\x01"),               // other links
		put(image, inode(3)+1, "\x03"),               // other links
		put(image, inode(1)+1, "\x00"),               // a directory without links
		put(image, inode(1), "\x01"),                 // a directory as a file
		put(image, root, "\x02"),                     // the root's first entry
		put(image, root+2, "..."),                    // its name
		put(image, root, strings.Repeat("\x00", 16)), // none
		put(image, d, "\x03"),                        // another parent
		put(image, d, "\x04"),                        // a file as the parent
		put(image, d, "\x21"),                        // no inode
		put(image, d, "\x0a"),                        // a free one
		put(image, sub, "\x01"),                      // another parent
		put(image, sub, "\x03"),                      // itself
		put(image, root+16, "\x01"),                  // an entry of the root
		put(image, root+16, "\x00"),                  // a name without an inode
		put(image, root+16, "\x0a"),                  // a free inode
		put(image, root+17, "\x01"),                  // no inode
		put(image, root+18, "/"),                     // no name
		put(image, root+18, "."),                     // no name
		put(image, root+18, ".."),                    // no name
		put(image, root+18, "\x00"),                  // no name
		put(image, root+20, "x"),                     // a nought within
		put(image, root+16, row(root, 2)),            // a name twice, too few of the other
		put(put(image, root+18, "f"), d+18, "f"),     // a name twice
		put(image, root+32, strings.Repeat("\x00", 16)),
		put(put(image, inode(1)+1, "\x02"), root+32, "\x02\x00x"), // a directory of two links
		put(put(put(image, root+16, strings.Repeat("\x00", 16)), d, "\x03"), sub+16, "\x02\x00dd"+strings.Repeat("\x00", 12)), // a ring
		put(image, 32*64+1, "\x00"), // the volume
	} {
		if y, e := mount(s); y != nil || e != api.ErrForm {
			t.Error(i, e)
		}
	}
}

// deed is a call that changes something, by what chance says.
func deed(r *rand.Rand) func(x *Tree) (string, api.Errno) {
	name := func() string { return string(rune('a' + r.Intn(4))) }
	path := func() string {
		s := name()
		for range r.Intn(3) {
			s = []string{name(), "..", "."}[min(r.Intn(5), 2)] + "/" + s
		}
		if r.Intn(2) == 0 {
			return "/" + s
		}
		return s
	}
	from, p, q, off, n := r.Intn(4), path(), path(), r.Intn(300), r.Intn(6)
	s := strings.Repeat(name(), r.Intn(500))
	switch r.Intn(9) {
	case 0, 1:
		return func(x *Tree) (string, api.Errno) { _, e := x.Make(from, p, 1); return "make " + p, e }
	case 2, 3:
		return func(x *Tree) (string, api.Errno) { _, e := x.Make(from, p, 2); return "mkdir " + p, e }
	case 4:
		return func(x *Tree) (string, api.Errno) { return "link " + p + " " + q, x.Link(from, p, q) }
	case 5, 6:
		return func(x *Tree) (string, api.Errno) { return "unlink " + p, x.Unlink(from, p) }
	case 7:
		return func(x *Tree) (string, api.Errno) {
			st, _ := x.Stat(n)
			return "write", x.Write(n, off%(st.Size+1), s)
		}
	}
	return func(x *Tree) (string, api.Errno) { return "cut", x.Cut(n) }
}

// TestAllOrNothing: whatever the call and the act at which the power goes.
func TestAllOrNothing(t *testing.T) { // P9.7
	for seed := range int64(12) {
		r := rand.New(rand.NewSource(seed))
		d, x := fresh(t, 60+r.Intn(60))
		for range 40 {
			do := deed(r)
			image, before := d.Image(), dump(t, x)
			what, e := do(x)
			if e != api.OK {
				if dump(t, x) != before || !slices.Equal(d.Image(), image) {
					t.Fatal(seed, what, "was refused and changed something")
				}
				continue
			}
			after := dump(t, x)
			for power := 0; ; power++ {
				done := false
				for _, keep := range []uint64{0, ^uint64(0), 1, 2, r.Uint64()} {
					c, _ := disk.Of(image)
					y, e := Mount(c)
					ok(t, e)
					c.Power(power)
					_, e = do(y)
					c.Crash(keep)
					z, f := Mount(c)
					if f != api.OK {
						t.Fatal(seed, what, power, keep, f)
					}
					got := dump(t, z)
					if got != after && (e == api.OK || got != before) {
						t.Fatal(seed, what, power, keep, e, "\n"+got)
					}
					done = done || e == api.OK
				}
				if done {
					break
				}
			}
			y, e := Mount(d)
			ok(t, e)
			if dump(t, y) != after {
				t.Fatal(seed, what)
			}
		}
	}
}
