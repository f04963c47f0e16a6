package space

import (
	"fmt"
	"math/rand"
	"slices"
	"strings"
	"testing"

	"binnacle/api"
	"binnacle/frames"
	"binnacle/phys"
	"binnacle/walk"
)

const (
	top  = ^uint64(0)
	both = api.PteV | api.PteU | api.PteR | api.PteW
	read = api.PteV | api.PteU | api.PteR
)

func ok(t *testing.T, e api.Errno) {
	t.Helper()
	if e != api.OK {
		t.Fatal(e)
	}
}

func is(t *testing.T, what any, e, want api.Errno) {
	t.Helper()
	if e != want {
		t.Errorf("%v: %d, not %d", what, e, want)
	}
}

func pool(t *testing.T, size, first int) *frames.Pool {
	t.Helper()
	m, e := phys.New(size)
	ok(t, e)
	p, e := frames.New(m, first)
	ok(t, e)
	return p
}

func fresh(t *testing.T, p *frames.Pool) int {
	t.Helper()
	root, e := New(p)
	ok(t, e)
	return root
}

// all are all bytes of a memory.
func all(p *frames.Pool) string {
	s, _ := p.Mem().Get(0, p.Mem().Frames()*256)
	return s
}

func TestArguments(t *testing.T) { // chapter 11's promises
	p := pool(t, 8, 1)
	fresh(t, p)
	for _, c := range []struct {
		p    *frames.Pool
		root int
	}{{nil, 1}, {p, 0}, {p, 2}, {p, -1}, {p, 8}, {p, 1 << 60}} {
		pages, e1 := Pages(c.p, c.root)
		n, e2 := Copy(c.p, c.root)
		s, e3 := In(c.p, c.root, 0, 0)
		u, e4 := Text(c.p, c.root, 0, 0)
		for i, e := range []api.Errno{e1, e2, e3, e4, Map(c.p, c.root, 1, both), Free(c.p, c.root), Out(c.p, c.root, 0, "")} {
			is(t, fmt.Sprint(c.root, i), e, api.ErrArg)
		}
		if pages != nil || n != 0 || s != "" || u != "" {
			t.Error("with an error nothing is told")
		}
	}
	if n, e := New(nil); n != 0 || e != api.ErrArg {
		t.Error(n, e)
	}
	if p.Left() != 6 {
		t.Error(p.Left())
	}
}

func TestMap(t *testing.T) { // P11.1, P11.2, P11.3
	p := pool(t, 16, 0)
	root := fresh(t, p)
	for _, c := range []struct {
		page int
		bits uint64
	}{{-1, both}, {32768, both}, {1 << 60, both}, {-1 << 63, both}, {1, 0}, {1, both &^ 1}, {1, both | 32}, {1, top}, {1, 1 << 63}} {
		is(t, c, Map(p, root, c.page, c.bits), api.ErrArg)
	}
	entry := func(frame, i int) uint64 {
		v, _ := p.Mem().Load(uint64(frame*256+i*8), 8)
		return v
	}
	ok(t, Map(p, root, 32767, api.PteV))
	if entry(0, 31) != walk.Entry(1, api.PteV) || entry(1, 31) != walk.Entry(2, api.PteV) || entry(2, 31) != walk.Entry(3, api.PteV) {
		t.Error("tables first, from the root down")
	}
	ok(t, Map(p, root, 31*1024, 31))
	if entry(1, 0) != walk.Entry(4, api.PteV) || entry(4, 0) != walk.Entry(5, 31) {
		t.Error("a table at level 0 alone")
	}
	ok(t, Map(p, root, 0, both))
	if entry(0, 0) != walk.Entry(6, api.PteV) || entry(6, 0) != walk.Entry(7, api.PteV) || entry(7, 0) != walk.Entry(8, both) {
		t.Error("both tables")
	}
	is(t, "there", Map(p, root, 0, both), api.ErrThere)
	is(t, "there", Map(p, root, 32767, both), api.ErrThere)
	is(t, "there, but no bits", Map(p, root, 0, 0), api.ErrArg)
	pages, e := Pages(p, root)
	if !slices.Equal(pages, []int{0, 31744, 32767}) || e != api.OK || p.Left() != 7 {
		t.Error(pages, e, p.Left())
	}
}

func TestMapFull(t *testing.T) { // P11.2
	for left := range 4 {
		for missing, page := range []int{1, 32, 1024} {
			p := pool(t, 16, 0)
			root := fresh(t, p)
			ok(t, Map(p, root, 0, both))
			for p.Left() > left {
				p.Take()
			}
			before := all(p)
			e := Map(p, root, page, both)
			if left > missing {
				ok(t, e)
				if p.Left() != left-missing-1 {
					t.Error(left, missing, p.Left())
				}
				continue
			}
			is(t, fmt.Sprint(left, missing), e, api.ErrFull)
			if all(p) != before || p.Left() != left {
				t.Error("something changed")
			}
			is(t, "there goes ahead", Map(p, root, 0, both), api.ErrThere)
		}
	}
	p := pool(t, 1, 0)
	fresh(t, p)
	if n, e := New(p); n != 0 || e != api.ErrFull {
		t.Error(n, e)
	}
}

// random is a space with pages that chance says, and their bits.
func random(t *testing.T, p *frames.Pool, r *rand.Rand) (int, map[int]uint64) {
	root := fresh(t, p)
	bits := map[int]uint64{}
	for range 1 + r.Intn(12) {
		page := []int{r.Intn(40), 1000 + r.Intn(60), r.Intn(32768)}[r.Intn(3)]
		b := uint64(1 | r.Intn(32))
		if e := Map(p, root, page, b); e == api.OK {
			bits[page] = b
			leaf, _ := walk.Leaf(p.Mem(), root, uint64(page)*256)
			entry, _ := p.Mem().Load(leaf, 8)
			p.Mem().Put(walk.Frame(entry)*256, strings.Repeat(string(rune('a'+r.Intn(26))), 256))
		}
	}
	return root, bits
}

// contents tells of each page its bits and bytes.
func contents(t *testing.T, p *frames.Pool, root int) map[int]string {
	t.Helper()
	out := map[int]string{}
	pages, e := Pages(p, root)
	ok(t, e)
	for _, page := range pages {
		leaf, e := walk.Leaf(p.Mem(), root, uint64(page)*256)
		ok(t, e)
		entry, _ := p.Mem().Load(leaf, 8)
		s, _ := p.Mem().Get(walk.Frame(entry)*256, 256)
		out[page] = fmt.Sprint(entry&1023) + s
	}
	return out
}

func TestCopyAndFree(t *testing.T) { // P11.3, P11.4, P11.6
	for seed := range int64(60) {
		r := rand.New(rand.NewSource(seed))
		p := pool(t, 256, 3)
		left := p.Left()
		root, bits := random(t, p, r)
		had := left - p.Left()
		pages, _ := Pages(p, root)
		if len(pages) != len(bits) || !slices.IsSorted(pages) {
			t.Fatal(pages, bits)
		}
		want := contents(t, p, root)
		for page, b := range bits {
			if !strings.HasPrefix(want[page], fmt.Sprint(b)) {
				t.Fatal(page, b)
			}
		}
		other, e := Copy(p, root)
		ok(t, e)
		if fmt.Sprint(contents(t, p, other)) != fmt.Sprint(want) || p.Left() != left-2*had {
			t.Fatal(seed, "the copy differs, or has more frames")
		}
		for _, page := range pages { // what is written into one is not seen in the other
			leaf, _ := walk.Leaf(p.Mem(), other, uint64(page)*256)
			entry, _ := p.Mem().Load(leaf, 8)
			p.Mem().Clear(int(walk.Frame(entry)))
		}
		if fmt.Sprint(contents(t, p, root)) != fmt.Sprint(want) {
			t.Fatal(seed, "they have a frame in common")
		}
		ok(t, Free(p, root))
		if p.Left() != left-had {
			t.Fatal(seed, p.Left())
		}
		is(t, "gone", Free(p, root), api.ErrArg)
		ok(t, Free(p, other))
		if p.Left() != left {
			t.Fatal(seed, p.Left())
		}
	}
}

func TestCopyFull(t *testing.T) { // P11.4
	p := pool(t, 16, 0)
	root := fresh(t, p)
	ok(t, Map(p, root, 1, both))
	ok(t, Map(p, root, 40, read)) // 6 frames
	for p.Left() > 5 {
		p.Take()
	}
	before := all(p)
	n, e := Copy(p, root)
	if n != 0 || e != api.ErrFull || all(p) != before || p.Left() != 5 {
		t.Error(n, e, p.Left())
	}
	p.Give(6)
	if n, e = Copy(p, root); e != api.OK || n != 6 || p.Left() != 0 {
		t.Error(n, e, p.Left())
	}
}

// two is a space of the pages 1 (both), 2 (both), 3 (reading), 4 (writing).
func two(t *testing.T) (*frames.Pool, int) {
	t.Helper()
	p := pool(t, 16, 0)
	root := fresh(t, p)
	for i, bits := range []uint64{both, both, read, api.PteV | api.PteU | api.PteW} {
		ok(t, Map(p, root, 1+i, bits))
	}
	ok(t, Map(p, root, 6, api.PteV|api.PteR|api.PteW))
	return p, root
}

func TestInAndOut(t *testing.T) { // P11.5
	p, root := two(t)
	s := strings.Repeat("0123456789", 40)
	ok(t, Out(p, root, 300, s[:400]))
	for _, c := range []struct {
		at uint64
		n  int
		e  api.Errno
	}{{256, 512, 0}, {256, 768, 0}, {256, 769, api.ErrAddr}, {255, 1, api.ErrAddr}, {255, 0, 0}, {0, 0, 0}, {top, 0, 0}, {top, 1, api.ErrAddr}, {1024, 1, api.ErrAddr}, {1023, 1, 0}, {1023, 2, api.ErrAddr}, {6 * 256, 1, api.ErrAddr}, {256, -1, api.ErrArg}, {256, 4097, api.ErrArg}, {256, 4096, api.ErrAddr}, {256, -1 << 63, api.ErrArg}, {256, 1<<63 - 1, api.ErrArg}} {
		got, e := In(p, root, c.at, c.n)
		if e != c.e || e != api.OK && got != "" || e == api.OK && len(got) != c.n {
			t.Error(c, e, len(got))
		}
	}
	if got, _ := In(p, root, 300, 400); got != s[:400] {
		t.Error(got)
	}
	if got, _ := In(p, root, 299, 3); got != "\x0001" {
		t.Errorf("%q", got)
	}
	before := all(p)
	for _, c := range []struct {
		at uint64
		n  int
		e  api.Errno
	}{{255, 1, api.ErrAddr}, {700, 69, api.ErrAddr}, {768, 1, api.ErrAddr}, {top, 1, api.ErrAddr}, {top, 0, 0}, {256, 4097, api.ErrArg}, {256, 4096, api.ErrAddr}, {1023, 2, api.ErrAddr}, {6 * 256, 1, api.ErrAddr}} {
		is(t, c, Out(p, root, c.at, strings.Repeat("z", c.n)), c.e)
	}
	if all(p) != before {
		t.Error("something changed")
	}
	ok(t, Out(p, root, 1024, strings.Repeat("z", 256)))
	ok(t, Out(p, root, 256, strings.Repeat("y", 512)))
	is(t, "into a page for reading", Out(p, root, 767, "zz"), api.ErrAddr)
	if got, _ := In(p, root, 767, 2); got != "y\x00" {
		t.Errorf("%q", got)
	}
}

func TestText(t *testing.T) { // P11.5
	p, root := two(t)
	ok(t, Out(p, root, 508, "hello\x00world"))
	ok(t, Out(p, root, 760, "12345678"))
	for _, c := range []struct {
		at   uint64
		most int
		s    string
		e    api.Errno
	}{{508, 5, "hello", 0}, {508, 4096, "hello", 0}, {508, 4, "", api.ErrMany}, {508, 0, "", api.ErrMany}, {513, 0, "", 0}, {513, 5, "", 0}, {760, 8, "12345678", 0}, {760, 7, "", api.ErrMany}, {508, -1, "", api.ErrArg}, {508, 4097, "", api.ErrArg}, {0, 5, "", api.ErrAddr}, {0, 0, "", api.ErrAddr}, {top, 5, "", api.ErrAddr}, {1024, 5, "", api.ErrAddr}, {6 * 256, 0, "", api.ErrAddr}} {
		if s, e := Text(p, root, c.at, c.most); s != c.s || e != c.e {
			t.Error(c, s, e)
		}
	}
	q := pool(t, 8, 0)
	r := fresh(t, q)
	ok(t, Map(q, r, 1, both))
	ok(t, Out(q, r, 256, strings.Repeat("x", 256)))
	for most, want := range map[int]api.Errno{255: api.ErrMany, 256: api.ErrAddr, 257: api.ErrAddr} {
		_, e := Text(q, r, 256, most)
		is(t, most, e, want)
	}
}

func TestExamples(t *testing.T) {
	p := pool(t, 16, 0)
	root := fresh(t, p)
	ok(t, Map(p, root, 1, both))
	if p.Left() != 12 {
		t.Error(p.Left())
	}
	ok(t, Map(p, root, 2, both))
	if pages, _ := Pages(p, root); !slices.Equal(pages, []int{1, 2}) {
		t.Error(pages)
	}
	ok(t, Out(p, root, 500, "abcdefghijkl"))
	is(t, 760, Out(p, root, 760, "abcdefghijkl"), api.ErrAddr)
	n, e := Copy(p, root)
	if n != 5 || e != api.OK || p.Left() != 6 || !p.Taken(9) || p.Taken(10) {
		t.Error(n, e)
	}
	ok(t, Free(p, root))
	if p.Left() != 11 {
		t.Error(p.Left())
	}
}
