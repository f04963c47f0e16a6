package kern

import (
	"slices"
	"strings"
	"testing"

	"binnacle/api"
	"binnacle/tree"
)

const (
	far   = 1 << 30 // an address that no process has
	top   = 64 * 256
	code  = 256 // it can be read, and not written
	least = -1 << 63
)

func neg(e api.Errno) int { return -int(e) }

func TestNoCall(t *testing.T) { // P16.6
	k := scripted(t, nil, []row{{21}, {-1}, {999}, {least}, {api.SysPid}})
	want(t, k, -1, -1, -1, -1, 0)
}

func TestForkAndWait(t *testing.T) { // P16.6
	k := scripted(t, nil, []row{
		{api.SysWait, 0},      // nobody
		{api.SysFork},         // 1
		{jump, 8},             // the child goes on there
		{api.SysWait, code},   // blocked; then no place for the status
		{api.SysWait, buffer}, // 1
		{api.SysWait, 0},      // nobody again
		{api.SysPid},
		{always, 11},
		{api.SysTime},
		{api.SysSleep, 3},
		{api.SysExit, -70000},
		{api.SysPid},
	})
	run(t, k, 400)
	want(t, k, neg(api.ErrChild), 1)
	if on := k.On(0); on != 1 && on != -1 {
		t.Error("the parent is blocked", on)
	}
	before, _ := k.Regs(0)
	for range 20 {
		ok(t, k.Run(0))
	}
	if after, _ := k.Regs(0); after != before || after.X[17] != api.SysWait {
		t.Error("a blocked process changes in nothing")
	}
	for range 3 {
		ok(t, k.Tick(0))
	}
	run(t, k, 400)
	want(t, k, neg(api.ErrChild), 1, 0, neg(api.ErrAddr), 1, neg(api.ErrChild), 0)
	if got := peekWords(t, k, 0, buffer, 1); got[0] != -70000 {
		t.Error(got)
	}
	if k.Table() != (api.Table{{State: api.ProcLive}}) {
		t.Error(k.Table())
	}
}

func TestWaitNowhere(t *testing.T) { // P16.6: the status may go nowhere
	k := scripted(t, nil, []row{{api.SysFork}, {jump, 4}, {api.SysWait, 0}, {always, 5}, {api.SysExit, 5}, {api.SysPid}})
	run(t, k, 400)
	want(t, k, 1, 0, 1)
}

func TestFork(t *testing.T) { // P16.6
	fork := []row{}
	for range 9 {
		fork = append(fork, row{api.SysFork}, row{jump, 19})
	}
	fork = append(fork, row{always, 20}, row{always, 19}, row{api.SysPid})
	k := boot(t, packed(t, file(t, script(t, fork)), nil), 256, 1)
	run(t, k, 2000)
	want(t, k, 1, 0, 2, 0, 3, 0, 4, 0, 5, 0, 6, 0, 7, 0, neg(api.ErrFull), 0, neg(api.ErrFull))
	for pid := 1; pid < 8; pid++ {
		child, e := k.Regs(pid)
		if e != api.OK || child.X[10] != 0 || k.Table()[pid] != (api.Row{State: api.ProcLive}) {
			t.Error(pid, child.X[10], k.Table()[pid])
		}
	}
	k = boot(t, packed(t, file(t, script(t, fork)), nil), 60, 1) // 26 frames of a process
	run(t, k, 2000)
	want(t, k, 1, 0, neg(api.ErrFull), 0, neg(api.ErrFull))
	if a, _ := k.Frames(0); k.Left() != 60-2*len(a) {
		t.Error(k.Left(), len(a))
	}
}

func TestOrphans(t *testing.T) { // chapter 16's words: to end a process
	k := scripted(t, nil, []row{{api.SysFork}, {jump, 4}, {api.SysWait, buffer}, {always, 10}, {api.SysFork}, {jump, 7}, {api.SysExit, 3}, {api.SysSleep, 5}, {api.SysExit, 4}, {api.SysPid}, {api.SysWait, buffer + 8}, {api.SysPid}})
	run(t, k, 600)
	if row := k.Table()[2]; row.Parent != 0 || row.State != api.ProcLive {
		t.Error(row)
	}
	for range 5 {
		ok(t, k.Tick(0))
	}
	run(t, k, 600)
	if answerOf(t, k, 0, 2) != 1 || answerOf(t, k, 0, 10) != 2 || !slices.Equal(peekWords(t, k, 0, buffer, 2), []int{3, 4}) {
		t.Error(answerOf(t, k, 0, 2), answerOf(t, k, 0, 10))
	}
}

func TestKill(t *testing.T) { // P16.6, P16.2
	k := scripted(t, nil, []row{{api.SysFork}, {jump, 9}, {api.SysKill, 5}, {api.SysKill, -1}, {api.SysKill, 1}, {api.SysKill, 1}, {api.SysWait, buffer}, {api.SysKill, 1}, {always, 11}, {api.SysSleep, 1 << 40}, {api.SysPid}, {api.SysPid}})
	run(t, k, 800)
	want(t, k, 1, 0, neg(api.ErrNone), neg(api.ErrNone), 0, 0, 1, neg(api.ErrNone))
	if got := peekWords(t, k, 0, buffer, 1); got[0] != -21 {
		t.Error(got)
	}
}

func TestTime(t *testing.T) { // P16.6
	k := scripted(t, nil, []row{{api.SysTime}, {api.SysSleep, 0}, {api.SysSleep, -5}, {api.SysSleep, 2}, {api.SysTime}, {api.SysSleep, 2}, {api.SysPid}})
	want(t, k, 0, 0, 0, 0, 0)
	if k.On(0) != -1 {
		t.Error("blocked")
	}
	ok(t, k.Tick(0))
	run(t, k, 20)
	if k.On(0) != -1 {
		t.Error("still blocked")
	}
	ok(t, k.Tick(0))
	run(t, k, 80)
	want(t, k, 0, 0, 0, 0, 2, 0, 0)
	if k.On(0) != 0 {
		t.Error("it goes on")
	}
}

func TestConsole(t *testing.T) { // P16.6: SysRead, SysWrite
	k := scripted(t, nil, []row{{api.SysRead, 0, buffer, 0}, {api.SysRead, 0, buffer, 100}, {api.SysRead, 0, buffer + 8, 100}, {api.SysRead, 0, code, 100}, {api.SysRead, 0, buffer + 16, 2}, {api.SysRead, 0, buffer + 24, 512}, {api.SysWrite, 2, buffer + 24, 0}, {api.SysRead, 0, far, 0}, {api.SysPid}})
	want(t, k, 0)
	if k.On(0) != -1 || k.Input("ab\n\ncdef") != 8 {
		t.Error("blocked")
	}
	run(t, k, 400)
	want(t, k, 0, 3, 1, neg(api.ErrAddr), 2, 2, 0, 0, 0)
	if s, _ := k.Peek(0, buffer, 32); s != "ab\n\x00\x00\x00\x00\x00\n\x00\x00\x00\x00\x00\x00\x00cd\x00\x00\x00\x00\x00\x00ef\x00\x00\x00\x00\x00\x00" {
		t.Errorf("%q", s)
	}
	if k.Console() != "" {
		t.Error(k.Console())
	}
}

func TestArguments(t *testing.T) { // P16.6: SysRead, SysWrite
	k := scripted(t, nil, []row{
		{api.SysRead, 3, buffer, 1}, {api.SysRead, -1, buffer, 1}, {api.SysRead, 8, far, -1}, {api.SysRead, least, buffer, 1},
		{api.SysRead, 0, far, -1}, {api.SysRead, 0, far, 513}, {api.SysWrite, 1, far, -1}, {api.SysWrite, 1, far, 513}, {api.SysWrite, 3, far, -1},
		{api.SysWrite, 1, far, 1}, {api.SysWrite, 1, top - 1, 2}, {api.SysWrite, 1, far, 0}, {api.SysWrite, 0, code, 4}, {api.SysClose, 1}, {api.SysClose, 1}, {api.SysWrite, 1, str(0), 1}, {api.SysClose, 8}, {api.SysClose, -1}, {api.SysPid},
	}, "abc")
	d, a, x := neg(api.ErrDesc), neg(api.ErrArg), neg(api.ErrAddr)
	want(t, k, d, d, d, d, a, a, a, a, d, x, x, 0, 4, 0, d, d, d, d, 0)
	if len(k.Console()) != 4 {
		t.Error(k.Console())
	}
}

func TestDup(t *testing.T) { // P16.6
	k := scripted(t, nil, []row{{api.SysDup, 1}, {api.SysDup, 3}, {api.SysClose, 1}, {api.SysDup, 0}, {api.SysWrite, 3, str(0), 3}, {api.SysDup, 9}, {api.SysDup, -1}, {api.SysDup, 5}, {api.SysDup, 0}, {api.SysDup, 0}, {api.SysDup, 0}, {api.SysDup, 0}, {api.SysClose, 0}, {api.SysRead, 0, buffer, 1}, {api.SysDup, 7}}, "abc")
	d := neg(api.ErrDesc)
	want(t, k, 3, 4, 0, 1, 3, d, d, d, 5, 6, 7, neg(api.ErrMany), 0, d, 0)
	if k.Console() != "abc" {
		t.Error(k.Console())
	}
}

func TestPipe(t *testing.T) { // P16.6
	k := scripted(t, nil, []row{
		{api.SysPipe, code}, {api.SysPipe, buffer}, {api.SysRead, 4, buffer, 1}, {api.SysWrite, 3, str(0), 1}, {api.SysWrite, 4, str(0), 5}, {api.SysRead, 3, code, 5}, {api.SysRead, 3, buffer + 16, 3}, {api.SysRead, 3, buffer + 24, 100},
		{api.SysRead, 3, buffer, 0}, {api.SysClose, 4}, {api.SysRead, 3, buffer, 100}, {api.SysPipe, buffer}, {api.SysClose, 4}, {api.SysWrite, 5, str(0), 1}, {api.SysWrite, 5, str(0), 0}, {api.SysPid},
	}, "hello")
	d := neg(api.ErrDesc)
	want(t, k, neg(api.ErrAddr), 0, d, d, 5, neg(api.ErrAddr), 3, 2, 0, 0, 0, 0, 0, neg(api.ErrPipe), neg(api.ErrPipe), 0)
	if got := peekWords(t, k, 0, buffer, 2); !slices.Equal(got, []int{4, 5}) {
		t.Error("the least free descriptors", got)
	}
	if s, _ := k.Peek(0, buffer+16, 10); s != "hel\x00\x00\x00\x00\x00lo" {
		t.Errorf("%q", s)
	}
}

func TestPipeBetween(t *testing.T) { // P16.6: a child writes, its parent reads, both are blocked at times
	k := scripted(t, nil, []row{
		{api.SysPipe, buffer}, {api.SysFork}, {jump, 9}, {api.SysClose, 4}, {api.SysRead, 3, buffer + 512, 512}, {api.SysRead, 3, buffer + 576, 512}, {api.SysRead, 3, buffer + 640, 512}, {api.SysWait, 0}, {always, 14},
		{api.SysClose, 3}, {api.SysWrite, 4, base, 60}, {api.SysWrite, 4, str(1), 9}, {api.SysWrite, 4, str(2), 5}, {api.SysExit, 0}, {api.SysPid},
	}, "0123456789", "abcdefghi", "klmno")
	for range 40 {
		ok(t, k.Tick(0))
		run(t, k, 40)
	}
	got := 0
	for i := range 3 {
		got += answerOf(t, k, 0, 4+i)
	}
	s, _ := k.Peek(0, buffer+512, 256)
	if answerOf(t, k, 0, 7) != 1 || got < 64 || !strings.HasPrefix(s, "0123456789\x00") {
		t.Error(got, answerOf(t, k, 0, 7))
	}
}

func TestPipeFull(t *testing.T) { // P16.6: a writer is blocked, and goes on
	k := scripted(t, nil, []row{{api.SysPipe, buffer}, {api.SysWrite, 4, base, 60}, {api.SysWrite, 4, base, 60}, {api.SysFork}, {jump, 7}, {api.SysWrite, 4, base, 60}, {always, 9}, {api.SysSleep, 2}, {api.SysRead, 3, buffer, 10}, {api.SysPid}})
	want(t, k, 0, 60, 4, 1)
	run(t, k, 300)
	if k.On(0) != -1 {
		t.Error("both are blocked", k.On(0))
	}
	for range 10 {
		ok(t, k.Tick(0))
		run(t, k, 100)
	}
	want(t, k, 0, 60, 4, 1, 0, 10)
	if answerOf(t, k, 1, 8) != 10 {
		t.Error(answerOf(t, k, 1, 8))
	}
}

func TestPipeMany(t *testing.T) { // P16.6
	k := scripted(t, nil, []row{{api.SysPipe, buffer}, {api.SysPipe, buffer}, {api.SysPipe, buffer}, {api.SysClose, 7}, {api.SysPipe, buffer}, {api.SysClose, 3}, {api.SysPipe, buffer}, {api.SysPipe, buffer}, {api.SysPid}})
	m := neg(api.ErrMany)
	want(t, k, 0, 0, m, neg(api.ErrDesc), m, 0, 0, m, 0)
}

// TestFewLeft: of the kernel's open files and pipes.
func TestFewLeft(t *testing.T) { // P16.6
	m := neg(api.ErrMany)
	for _, c := range []struct {
		opens, pipes int // free ones
		answers      []int
	}{{2, 1, []int{0, 0, m, m, 5}}, {3, 1, []int{0, 0, m, 5, 6}}, {1, 1, []int{0, m, m, 3, 4}}, {0, 8, []int{0, m, m, m, 3}}, {9, 0, []int{0, m, m, 3, 4}}, {4, 2, []int{0, 0, 0, m, 7}}} {
		k := scripted(t, plant(t), []row{{api.SysSleep, 1}, {api.SysPipe, buffer}, {api.SysPipe, buffer}, {api.SysOpen, str(0), 0}, {api.SysDup, 0}, {api.SysPid}}, "f")
		for f := 1; f < 16-c.opens; f++ {
			k.opens[f] = open{kind: toConsole, refs: 1}
		}
		for n := range 8 - c.pipes {
			k.pipes[n] = api.Pipe{Readers: 1}
		}
		ok(t, k.Tick(0))
		run(t, k, 200)
		want(t, k, c.answers...)
	}
}

func plant(t *testing.T) func(x *tree.Tree) {
	return func(x *tree.Tree) {
		put(t, x, "f", "0123456789")
		_, e := x.Make(0, "d", api.KindDir)
		ok(t, e)
	}
}

func TestOpen(t *testing.T) { // P16.6
	k := scripted(t, plant(t), []row{
		{api.SysOpen, far}, {api.SysOpen, str(1)}, {api.SysOpen, str(2), 1}, {api.SysOpen, str(2), 0}, {api.SysRead, 3, buffer, 512}, {api.SysWrite, 3, str(0), 1},
		{api.SysOpen, str(0), 6}, {api.SysRead, 4, buffer + 100, 4}, {api.SysRead, 4, buffer + 104, 512}, {api.SysRead, 4, buffer, 512}, {api.SysWrite, 4, str(0), 1},
		{api.SysOpen, str(0), 1}, {api.SysWrite, 5, str(4), 2}, {api.SysWrite, 5, far, 2}, {api.SysRead, 5, buffer + 120, 3}, {api.SysOpen, str(3), 3}, {api.SysOpen, str(5), 7}, {api.SysOpen, str(5), 7}, {api.SysOpen, far, 7},
	}, "f", "nix", "d", "d/new", "XY", "/f")
	want(t, k, neg(api.ErrAddr), neg(api.ErrNone), neg(api.ErrIsDir), 3, 16, neg(api.ErrDesc), 4, 4, 6, 0, neg(api.ErrDesc), 5, 2, neg(api.ErrAddr), 3, 6, 7, neg(api.ErrMany), neg(api.ErrAddr))
	if s, _ := k.Peek(0, buffer+100, 23); s != "0123456789"+strings.Repeat("\x00", 10)+"234" {
		t.Errorf("%q", s)
	}
	if n, e := k.tree.Find(0, "d/new"); e != api.OK {
		t.Error(n, e)
	}
	if st, _ := k.tree.Stat(2); st.Size != 0 {
		t.Error("cut", st)
	}
}

func TestWriteErrors(t *testing.T) { // P16.6: the tree's errors
	k := scripted(t, func(x *tree.Tree) { put(t, x, "f", strings.Repeat("x", 2366)) }, []row{{api.SysOpen, str(0), 1}, {api.SysOpen, str(0), 0}, {api.SysRead, 4, buffer, 512}, {api.SysRead, 4, buffer, 512}, {api.SysRead, 4, buffer, 512}, {api.SysRead, 4, buffer, 512}, {api.SysRead, 4, buffer, 512}, {api.SysOpen, str(0), 5}, {api.SysWrite, 3, str(0), 1}, {api.SysRead, 3, buffer, 1}, {api.SysRead, 4, buffer, 1}, {api.SysMkdir, str(0)}, {api.SysUnlink, str(1)}}, "f")
	want(t, k, 3, 4, 512, 512, 512, 512, 318, 5, 1, 0, 0, neg(api.ErrThere), neg(api.ErrName))
}

func TestPlaceBehind(t *testing.T) { // P16.6: a place behind the file's end
	k := scripted(t, plant(t), []row{{api.SysOpen, str(0), 1}, {api.SysRead, 3, buffer, 5}, {api.SysOpen, str(0), 5}, {api.SysWrite, 3, str(0), 1}, {api.SysRead, 3, buffer, 5}, {api.SysWrite, 4, str(1), 8}, {api.SysRead, 3, buffer, 5}}, "f", "ABCDEFGH")
	want(t, k, 3, 5, 4, neg(api.ErrArg), 0, 8, 3)
	if s, _ := k.Peek(0, buffer, 3); s != "FGH" {
		t.Error(s)
	}
}

func TestHeldFiles(t *testing.T) { // P16.6: open files hold their inodes, processes their directories
	k := scripted(t, plant(t), []row{{api.SysOpen, str(0), 1}, {api.SysUnlink, str(0)}, {api.SysWrite, 3, str(1), 3}, {api.SysDup, 3}, {api.SysClose, 3}, {api.SysRead, 4, buffer, 9}, {api.SysChdir, str(1)}, {api.SysUnlink, str(2)}, {api.SysSleep, 1}, {api.SysClose, 4}, {api.SysChdir, str(3)}, {api.SysUnlink, str(2)}, {api.SysPid}}, "f", "d", "/d", "..")
	want(t, k, 3, 0, 3, 4, 0, 7, 0, neg(api.ErrBusy))
	if st, e := k.tree.Stat(2); e != api.OK || st.Links != 0 {
		t.Error(st, e)
	}
	ok(t, k.Tick(0))
	run(t, k, 200)
	if _, e := k.tree.Stat(2); e != api.ErrNone {
		t.Error("a file without a name or a descriptor", e)
	}
	if answerOf(t, k, 0, 9) != 0 || answerOf(t, k, 0, 10) != 0 || answerOf(t, k, 0, 11) != 0 {
		t.Error("the directory is let go")
	}
}

func TestEndLetsGo(t *testing.T) { // chapter 16's words: to end a process
	k := scripted(t, plant(t), []row{{api.SysFork}, {jump, 7}, {api.SysWait, 0}, {api.SysUnlink, str(2)}, {api.SysUnlink, str(0)}, {api.SysPid}, {always, 14}, {api.SysOpen, str(0), 1}, {api.SysDup, 3}, {api.SysPipe, buffer}, {api.SysChdir, str(1)}, {api.SysClose, 0}, {api.SysExit, 0}, {api.SysPid}, {api.SysPid}}, "/f", "d", "d")
	run(t, k, 400)
	want(t, k, 1, 0, 1, 0, 0, 0)
	for f, o := range k.opens {
		if (o != open{}) != (f == 0) || f == 0 && o.refs != 3 {
			t.Error(f, o)
		}
	}
	if _, e := k.tree.Stat(2); e != api.ErrNone || k.freePipe() != 0 {
		t.Error("what it had is free", e)
	}
	if a, _ := k.Frames(0); k.Left() != 128-len(a) {
		t.Error(k.Left())
	}
}

func TestTree(t *testing.T) { // P16.6: SysMkdir, SysLink, SysUnlink, SysChdir, SysStat
	long := strings.Repeat("x", 31)
	k := scripted(t, plant(t), []row{
		{api.SysMkdir, str(2)}, {api.SysMkdir, str(2)}, {api.SysMkdir, far}, {api.SysLink, str(0), str(3)}, {api.SysLink, far, far}, {api.SysLink, str(0), far}, {api.SysLink, str(1), str(4)},
		{api.SysChdir, str(0)}, {api.SysChdir, str(4)}, {api.SysChdir, far}, {api.SysChdir, str(2)}, {api.SysStat, str(3), buffer}, {api.SysStat, str(5), buffer}, {api.SysStat, str(5), code}, {api.SysStat, str(4), code}, {api.SysStat, far, far}, {api.SysUnlink, str(5)}, {api.SysUnlink, far}, {api.SysUnlink, str(6)},
	}, "f", "d", "d/e", "/d/e/g", "nix", "g", long)
	want(t, k, 0, neg(api.ErrThere), neg(api.ErrAddr), 0, neg(api.ErrAddr), neg(api.ErrAddr), neg(api.ErrIsDir), neg(api.ErrNotDir), neg(api.ErrNone), neg(api.ErrAddr), 0, 0, 0, neg(api.ErrAddr), neg(api.ErrNone), neg(api.ErrAddr), 0, neg(api.ErrAddr), neg(api.ErrName))
	if got := peekWords(t, k, 0, buffer, 3); !slices.Equal(got, []int{api.KindFile, 2, 10}) {
		t.Error(got)
	}
}

func TestLongPath(t *testing.T) { // P16.6: MaxPath
	rows := []row{{api.SysMkdir, base}, {api.SysMkdir, base + 1}, {api.SysStat, base + 1, buffer}}
	x := script(t, rows)
	x.Data = strings.Repeat("/", 128) + "n\x00" + x.Data[130:]
	k := boot(t, packed(t, file(t, x), nil), 64, 1)
	run(t, k, 200)
	want(t, k, neg(api.ErrMany), 0, 0)
}

func TestGrow(t *testing.T) { // P16.6: the script's break is 1280 + 1024 + 2048 - 768
	const end = 512 + 1024 + 2048
	k := scripted(t, nil, []row{{api.SysGrow, 0}, {api.SysGrow, -1}, {api.SysGrow, 2049}, {api.SysWrite, 1, end, 1}, {api.SysGrow, 1}, {api.SysRead, 0, end, 9}, {api.SysGrow, 255}, {api.SysGrow, 2048}, {api.SysGrow, 2048}, {api.SysGrow, 2048}, {api.SysGrow, 2048}, {api.SysGrow, 2048}, {api.SysGrow, 14080 - end - 256 - 5*2048 + 1}, {api.SysGrow, 14080 - end - 256 - 5*2048}, {api.SysGrow, 1}, {api.SysGrow, 0}, {api.SysRead, 0, 14080 - 4, 4}})
	left := k.Left()
	k.Input("abcd\nefgh")
	run(t, k, 400)
	m := neg(api.ErrMany)
	want(t, k, end, -1, -1, neg(api.ErrAddr), end, 5, end+1, end+256, end+256+2048, end+256+4096, end+256+3*2048, end+256+4*2048, m, end+256+5*2048, m, 14080, 4)
	if pages := (14080 - end) / 256; left-k.Left() != pages-1 {
		t.Error(left, k.Left(), pages)
	}
	k = boot(t, packed(t, file(t, script(t, []row{{api.SysGrow, 1024}, {api.SysGrow, 768}, {api.SysGrow, 1}})), nil), 28, 1)
	run(t, k, 100)
	want(t, k, neg(api.ErrFull), end, neg(api.ErrFull))
	if k.Left() != 0 {
		t.Error(k.Left())
	}
}

func TestPower(t *testing.T) { // P16.6: ErrDead is an error like others
	d := packed(t, file(t, script(t, []row{{api.SysSleep, 1}, {api.SysMkdir, str(1)}, {api.SysOpen, str(0), 0}, {api.SysUnlink, str(0)}, {api.SysStat, str(0), buffer}, {api.SysExec, str(0), 0}, {api.SysFork}, {api.SysWrite, 1, str(0), 1}}, "f", "n")), plant(t))
	k := boot(t, d, 64, 1)
	run(t, k, 20)
	d.Power(3)
	ok(t, k.Tick(0))
	run(t, k, 200)
	x := neg(api.ErrDead)
	want(t, k, 0, x, x, x, x, x, x, 1)
	if k.Console() != "f" || k.Table() != (api.Table{{State: api.ProcLive}}) {
		t.Error(k.Console(), k.Table())
	}
}
