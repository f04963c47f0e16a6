package kern

import (
	"slices"
	"strings"
	"testing"

	"binnacle/api"
	"binnacle/disk"
	"binnacle/tree"
	"binnacle/word"
)

const spin = "jal x0, 0"

func TestNil(t *testing.T) { // chapter 16's promises
	var k *Kernel
	h, e1 := k.Regs(0)
	s, e2 := k.Peek(0, 0, 0)
	f, e3 := k.Frames(0)
	for i, e := range []api.Errno{e1, e2, e3, k.Run(0), k.Tick(0)} {
		if e != api.ErrArg {
			t.Error(i, e)
		}
	}
	if h != (api.Hart{}) || s != "" || f != nil || k.Input("a") != 0 || k.Console() != "" || k.Table() != (api.Table{}) || k.Left() != 0 || k.On(0) != -1 {
		t.Error("of none")
	}
}

func TestBoot(t *testing.T) { // P16.1
	init := file(t, api.Prog{Entry: 4, Text: text(t, "fence\n"+spin), Data: "x", Bss: 300})
	d := packed(t, init, nil)
	for _, c := range [][2]int{{15, 1}, {257, 1}, {0, 1}, {-1, 1}, {64, 0}, {64, 5}, {64, -1}, {1 << 60, 1}} {
		if k, e := Boot(d, c[0], c[1]); k != nil || e != api.ErrArg {
			t.Error(c, e)
		}
		if k, e := Boot(nil, c[0], c[1]); k != nil || e != api.ErrArg {
			t.Error(c, e)
		}
	}
	if k, e := Boot(nil, 64, 1); k != nil || e != api.ErrArg {
		t.Error(e)
	}
	for _, c := range [][2]int{{16, 1}, {256, 4}} {
		k := boot(t, d, c[0], c[1])
		want := api.Hart{PC: 260}
		want.X[2] = 64 * 256
		h, e := k.Regs(0)
		if h != want || e != api.OK || k.Table() != (api.Table{{State: api.ProcLive}}) || k.Console() != "" || k.Left() != c[0]-15 {
			t.Error(h, e, k.Left())
		}
		for hart := -1; hart < 6; hart++ {
			if k.On(hart) != -1 {
				t.Error(hart, k.On(hart))
			}
		}
	}
	if k, e := Boot(packed(t, file(t, script(t, nil)), nil), 16, 1); k != nil || e != api.ErrFull {
		t.Error("too few frames", e)
	}
	empty, _ := disk.New(48)
	if k, e := Boot(empty, 64, 1); k != nil || e != api.ErrForm {
		t.Error("no tree", e)
	}
	for i, change := range []func(x *tree.Tree){
		func(x *tree.Tree) { x.Unlink(0, "init") },
		func(x *tree.Tree) { x.Unlink(0, "init"); x.Make(0, "init", api.KindDir) },
		func(x *tree.Tree) { x.Write(2, 0, "X") },
		func(x *tree.Tree) { x.Cut(1) },
	} {
		k, e := Boot(packed(t, init[:len(init)-i/2], change), 64, 1)
		if k != nil || e != api.ErrExec {
			t.Error(i, e)
		}
	}
	d.Power(0)
	d.Flush()
	if k, e := Boot(d, 64, 1); k != nil || e != api.ErrDead {
		t.Error("off", e)
	}
}

func TestRunAndTick(t *testing.T) { // P16.2, P16.3
	k := boot(t, packed(t, file(t, api.Prog{Text: text(t, "addi x1, x1, 1\njal x0, -4")}), nil), 64, 2)
	for _, hart := range []int{-1, 2, 1 << 60, -1 << 63} {
		if k.Run(hart) != api.ErrArg || k.Tick(hart) != api.ErrArg || k.On(hart) != -1 {
			t.Error(hart)
		}
	}
	ok(t, k.Run(1))
	if h, _ := k.Regs(0); k.On(0) != -1 || k.On(1) != 0 || h.X[1] != 1 || h.PC != 260 {
		t.Error(k.On(0), k.On(1), h)
	}
	ok(t, k.Run(0)) // nobody else lives
	if h, _ := k.Regs(0); k.On(0) != -1 || h.PC != 260 {
		t.Error(k.On(0), h)
	}
	ok(t, k.Tick(0))
	if k.On(1) != 0 {
		t.Error("the other hart's turn goes on")
	}
	ok(t, k.Tick(1))
	if k.On(1) != -1 {
		t.Error("a turn ends")
	}
	ok(t, k.Run(0))
	if h, _ := k.Regs(0); k.On(0) != 0 || h.PC != 256 {
		t.Error(k.On(0), h)
	}
}

func TestEnds(t *testing.T) { // P16.2: what ends a process
	for code, status := range map[string]int{
		"ebreak":                                   -102,
		"lui x1, 4096\njalr x0, 0(x1)":             -104, // no page
		"addi x1, x0, 2\njalr x0, 256(x1)":         -104, // no multiple of 4
		"ld x1, 0(x0)":                             -105,
		"addi x1, x0, 256\nsd x1, 0(x1)":           -106, // its own code
		"addi x17, x0, 1\naddi x10, x0, -5\necall": -5,
		"addi x17, x0, 11\necall\nfence":           -21, // it kills itself
	} {
		k := boot(t, packed(t, file(t, api.Prog{Text: text(t, code)}), nil), 64, 2)
		run(t, k, 8)
		if k.Table() != (api.Table{{State: api.ProcDone, Status: status}}) || k.On(0) != -1 || k.Left() != 64 {
			t.Error(code, k.Table()[0], k.On(0), k.Left())
		}
		if k.Run(0) != api.OK || k.Tick(1) != api.OK || k.Run(2) != api.ErrArg || k.Input("abc") != 0 {
			t.Error("halted")
		}
		if _, e := k.Regs(0); e != api.ErrNone {
			t.Error(e)
		}
	}
	k := boot(t, packed(t, file(t, api.Prog{Text: "\x00\x00\x00\x00"}), nil), 64, 1)
	run(t, k, 1)
	if k.Table()[0].Status != -103 {
		t.Error(k.Table()[0])
	}
}

func TestAsking(t *testing.T) { // P16.4, P16.5
	k := boot(t, packed(t, file(t, api.Prog{Text: text(t, spin), Data: "data!"}), nil), 64, 1)
	if s, e := k.Peek(0, 512, 5); s != "data!" || e != api.OK {
		t.Error(s, e)
	}
	if _, e := k.Peek(0, 0, 1); e != api.ErrAddr {
		t.Error(e)
	}
	if _, e := k.Peek(0, 512, -1); e != api.ErrArg {
		t.Error(e)
	}
	frames, e := k.Frames(0)
	if len(frames) != 64-k.Left() || !slices.IsSorted(frames) || len(slices.Compact(frames)) != 14 || e != api.OK {
		t.Error(frames, e)
	}
	for _, pid := range []int{-1, 1, 7, 8, 1 << 60, -1 << 63} {
		h, e1 := k.Regs(pid)
		s, e2 := k.Peek(pid, 512, 5)
		f, e3 := k.Frames(pid)
		if e1 != api.ErrNone || e2 != api.ErrNone || e3 != api.ErrNone || h != (api.Hart{}) || s != "" || f != nil {
			t.Error(pid, e1, e2, e3)
		}
	}
	if k.Input(strings.Repeat("x", 250)) != 250 || k.Input("1234567") != 6 || k.Input("z") != 0 || k.Input("") != 0 {
		t.Error("Input")
	}
}

func TestReservations(t *testing.T) { // P16.2
	at := func(code string, steps int) api.Hart {
		k := boot(t, packed(t, file(t, api.Prog{Text: text(t, "lui x1, 4096\naddi x1, x1, -2048\naddi x1, x1, -1536\nlr.d x2, (x1)\n"+code+"\nfence\n"+spin), Bss: 64}), nil), 64, 1)
		run(t, k, 4)
		if h, _ := k.Regs(0); !h.Held || h.At == 0 {
			t.Fatal("no reservation")
		}
		run(t, k, steps)
		h, _ := k.Regs(0)
		return h
	}
	for code, held := range map[string]bool{"sb x0, 7(x1)": false, "sd x0, 8(x1)": true, "sw x0, 4(x1)": false, "addi x2, x1, 8\nsb x0, 0(x2)": true, "ld x3, 0(x1)": true, "addi x17, x0, 12\necall": false, "addi x17, x0, 77\necall": false} {
		if h := at(code, 3); h.Held != held || !held && h.At != 0 {
			t.Error(code, h.Held, h.At)
		}
	}
}

// TestTurns: whose turn it is, with several harts.
func TestTurns(t *testing.T) { // P16.2, P16.3, P16.7
	k := boot(t, packed(t, file(t, script(t, []row{{api.SysFork}, {api.SysFork}})), nil), 256, 3)
	run(t, k, 100)
	if on := k.On(0); on != 0 {
		t.Error(on)
	}
	var seen []int
	for range 12 {
		ok(t, k.Tick(0))
		ok(t, k.Run(0))
		seen = append(seen, k.On(0))
	}
	if !slices.Equal(seen[:3], []int{1, 2, 0}) { // the children did not have a turn yet
		t.Error(seen)
	}
	for range 200 {
		ok(t, k.Run(1))
		ok(t, k.Run(2))
	}
	if k.On(0) == k.On(1) || k.On(1) == k.On(2) || k.On(0) == k.On(2) {
		t.Error("a process on two harts", k.On(0), k.On(1), k.On(2))
	}
	had := map[int]bool{}
	for range 8 {
		ok(t, k.Tick(0))
		ok(t, k.Run(0))
		had[k.On(0)] = true
	}
	for pid, r := range k.Table() {
		busy := pid == k.On(1) || pid == k.On(2)
		if r.State == api.ProcLive && !busy && !had[pid] {
			t.Error(pid, "had no turn")
		}
	}
}

// TestApart: no frame is of two, and what one writes is not seen in the other.
func TestApart(t *testing.T) { // P16.7
	k := scripted(t, nil, []row{{api.SysFork}, {jump, 3}, {always, 4}, {api.SysPid}, {api.SysPid}})
	ok(t, k.Tick(0))
	run(t, k, 200)
	if answerOf(t, k, 0, 0) != 1 || answerOf(t, k, 1, 0) != 0 || answerOf(t, k, 0, 3) != 0 || answerOf(t, k, 1, 3) != 1 || answerOf(t, k, 1, 4) != 1 {
		t.Error("the child's answers are its own")
	}
	a, _ := k.Frames(0)
	b, _ := k.Frames(1)
	for _, f := range a {
		if slices.Contains(b, f) {
			t.Error("a frame of two", f)
		}
	}
	if len(a)+len(b)+k.Left() != 128 {
		t.Error(len(a), len(b), k.Left())
	}
}

// peekWords are words of a process's space.
func peekWords(t *testing.T, k *Kernel, pid, at, n int) []int {
	t.Helper()
	s, e := k.Peek(pid, uint64(at), 8*n)
	ok(t, e)
	var out []int
	for i := range n {
		out = append(out, int(word.Of(s[8*i:8*i+8])))
	}
	return out
}
