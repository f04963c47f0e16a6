package kern

import (
	"slices"
	"strings"
	"testing"

	"binnacle/api"
	"binnacle/tree"
	"binnacle/word"
)

// other is a program that SysExec begins: it goes on and on at its second instruction.
func other(t *testing.T) api.Prog {
	return api.Prog{Entry: 4, Text: text(t, "ebreak\n"+spin), Data: "other", Bss: 600}
}

// calling is a script that calls SysExec with the words at args, of strings of these lengths at given places.
func calling(t *testing.T, rows []row, data string) *Kernel {
	t.Helper()
	x := script(t, rows, "/other", "f", "d", "nix")
	x.Data = x.Data[:512] + data + strings.Repeat("\x00", 512-len(data))
	k := boot(t, packed(t, file(t, x), func(x *tree.Tree) {
		plant(t)(x)
		put(t, x, "other", file(t, other(t)))
	}), 64, 1)
	run(t, k, 40+20*len(rows))
	return k
}

// words are the bytes of an argument list at 1024.
func words(vs ...int) string {
	s := ""
	for _, v := range vs {
		s += word.Bytes(uint64(v), 8)
	}
	return s
}

const argsAt = base + 512

func TestExec(t *testing.T) { // P16.6
	strs := "one\x00\x00two and more\x00"
	k := calling(t, []row{{api.SysClose, 1}, {api.SysChdir, str(2)}, {api.SysExec, str(0), argsAt}, {api.SysPid}}, words(argsAt+32, argsAt+36, argsAt+37, 0)+strs)
	h, e := k.Regs(0)
	ok(t, e)
	var want api.Hart
	want.PC = 260
	// one: 4 bytes below 16384; an empty one; 13 bytes; then four words
	places := []int{16376, 16368, 16352}
	sp := 16352 - 32
	want.X[2], want.X[11], want.X[10] = uint64(sp), uint64(sp), 3
	if h != want {
		t.Error(h)
	}
	if got := peekWords(t, k, 0, sp, 4); !slices.Equal(got, append(places, 0)) {
		t.Error(got)
	}
	if s, _ := k.Peek(0, 16352, 32); s != "two and more\x00\x00\x00\x00\x00\x00\x00\x00\x00\x00\x00\x00one\x00\x00\x00\x00\x00" {
		t.Errorf("%q", s)
	}
	if s, _ := k.Peek(0, 512, 5); s != "other" {
		t.Errorf("%q", s)
	}
	frames, _ := k.Frames(0)
	if len(frames) != 1+3+8+4 || k.Left() != 64-16 {
		t.Error(len(frames), k.Left())
	}
	p := k.procs[0]
	if p.fds != [8]int{0, none, 0, none, none, none, none, none} || p.dir == 0 || p.end != 512+605 {
		t.Error(p.fds, p.dir, p.end)
	}
}

func TestExecNoArguments(t *testing.T) { // P16.6
	k := calling(t, []row{{api.SysExec, str(0), argsAt}}, words(0))
	h, _ := k.Regs(0)
	if h.X[10] != 0 || h.X[2] != 16376 || h.X[11] != 16376 || peekWords(t, k, 0, 16376, 1)[0] != 0 {
		t.Error(h)
	}
}

func TestExecErrors(t *testing.T) { // P16.6
	eight := []int{argsAt, argsAt, argsAt, argsAt, argsAt, argsAt, argsAt, argsAt}
	rows := []row{
		{api.SysExec, far, far}, {api.SysExec, str(3), far}, {api.SysExec, str(2), far}, {api.SysExec, str(1), far}, {api.SysExec, str(0), far},
		{api.SysExec, str(0), argsAt + 200}, // nine
		{api.SysExec, str(0), argsAt + 280}, // eight, and a ninth that can't be read
	}
	s := strings.Repeat("a", 7) + "\x00"
	data := s + strings.Repeat("\x00", 192) + words(eight...) + words(argsAt, 0) + words(eight...) + words(far, 0)
	k := calling(t, rows, data)
	before, _ := k.Frames(0)
	want(t, k, neg(api.ErrAddr), neg(api.ErrNone), neg(api.ErrExec), neg(api.ErrExec), neg(api.ErrAddr), neg(api.ErrMany), neg(api.ErrAddr))
	if k.Left() != 64-len(before) {
		t.Error(k.Left())
	}
	k = calling(t, []row{{api.SysExec, str(0), argsAt + 200}}, s+strings.Repeat("\x00", 192)+words(eight...)+words(0))
	if h, _ := k.Regs(0); h.X[10] != 8 {
		t.Error("eight may be", h.X[10])
	}
}

func TestExecLengths(t *testing.T) { // P16.6: all of them together, one byte more each
	for _, c := range []struct {
		a, b int
		e    api.Errno
	}{{199, -1, api.OK}, {200, -1, api.ErrMany}, {201, -1, api.ErrMany}, {100, 98, api.OK}, {100, 99, api.ErrMany}, {198, 0, api.OK}, {199, 0, api.ErrMany}} {
		list := words(argsAt+24, 0, 0)
		if c.b >= 0 {
			list = words(argsAt+24, argsAt+24+c.a+1, 0)
		}
		data := list + strings.Repeat("a", c.a) + "\x00"
		if c.b >= 0 {
			data += strings.Repeat("b", c.b) + "\x00"
		}
		k := calling(t, []row{{api.SysExec, str(0), argsAt}, {api.SysPid}}, data)
		if c.e != api.OK {
			want(t, k, neg(c.e), 0)
			continue
		}
		h, _ := k.Regs(0)
		n := 1
		if c.b >= 0 {
			n = 2
		}
		if h.PC != 260 || int(h.X[10]) != n {
			t.Error(c, h)
			continue
		}
		got := peekWords(t, k, 0, int(h.X[11]), n)
		if s, _ := k.Peek(0, uint64(got[0]), c.a+1); s != strings.Repeat("a", c.a)+"\x00" {
			t.Error(c, s)
		}
	}
}

func TestExecFull(t *testing.T) { // P16.6: too few frames for both
	x := script(t, []row{{api.SysExec, str(0), str(1)}, {api.SysPid}}, "/other")
	d := packed(t, file(t, x), func(x *tree.Tree) { put(t, x, "other", file(t, other(t))) })
	k := boot(t, d, 40, 1)
	run(t, k, 60)
	want(t, k, neg(api.ErrFull), 0)
	if k.Left() != 40-25 {
		t.Error(k.Left())
	}
	k = boot(t, d, 41, 1)
	run(t, k, 60)
	if h, _ := k.Regs(0); h.PC != 260 || k.Left() != 41-16 {
		t.Error(h.PC, k.Left())
	}
}
