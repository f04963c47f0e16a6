package kern

import (
	"strings"
	"testing"

	"binnacle/api"
	"binnacle/disk"
	"binnacle/inst"
	"binnacle/prog"
	"binnacle/tree"
	"binnacle/word"
)

func ok(t *testing.T, e api.Errno) {
	t.Helper()
	if e != api.OK {
		t.Fatal(e)
	}
}

// text is a program's code, an instruction a line.
func text(t *testing.T, lines string) string {
	t.Helper()
	s := ""
	for line := range strings.SplitSeq(strings.TrimSpace(lines), "\n") {
		x, e := inst.Parse(strings.TrimSpace(line))
		if e != api.OK {
			t.Fatal(line)
		}
		w, _ := inst.Encode(x)
		s += word.Bytes(uint64(w), 4)
	}
	return s
}

// file is a program's.
func file(t *testing.T, x api.Prog) string {
	t.Helper()
	s, e := prog.Encode(x)
	ok(t, e)
	return s
}

// put makes a file.
func put(t *testing.T, x *tree.Tree, path, s string) {
	t.Helper()
	n, e := x.Make(0, path, api.KindFile)
	ok(t, e)
	for off := 0; off < len(s); off += api.MaxWrite {
		ok(t, x.Write(n, off, s[off:min(off+api.MaxWrite, len(s))]))
	}
}

// packed is a disk with such an /init, and what else is done to its tree.
func packed(t *testing.T, init string, more func(x *tree.Tree)) *disk.Disk {
	t.Helper()
	d, e := disk.New(300)
	ok(t, e)
	x, e := tree.Format(d)
	ok(t, e)
	put(t, x, "/init", init)
	if more != nil {
		more(x)
	}
	return d
}

func boot(t *testing.T, d *disk.Disk, size, harts int) *Kernel {
	t.Helper()
	k, e := Boot(d, size, harts)
	if k == nil || e != api.OK {
		t.Fatal(e)
	}
	return k
}

// run makes so many steps of the hart 0.
func run(t *testing.T, k *Kernel, n int) {
	t.Helper()
	for range n {
		ok(t, k.Run(0))
	}
}

// A script is a program that makes calls, row by row: a number and three arguments; what each answered stands in its answers. It goes on and on at its end.
const (
	base    = 512  // where a script's data are: eight strings of 32 bytes,
	rowsAt  = 768  // rows of 32 bytes
	answers = 1536 // a word for each row
	buffer  = 2048
	jump    = 1000 // not a call: to the row that the first argument tells, if the call above answered 0
	always  = 1001 // likewise, whatever it answered
)

type row [4]int

// str is the address of a script's string.
func str(i int) int { return base + 32*i }

// script is one of these rows and strings.
func script(t *testing.T, rows []row, strs ...string) api.Prog {
	t.Helper()
	code := text(t, `
		lui x5, 4096
		addi x5, x5, -1664
		addi x5, x5, -1664
		lui x6, 4096
		addi x6, x6, -1280
		addi x6, x6, -1280
		addi x7, x0, 1000
		ld x17, 0(x5)
		beq x17, x0, 0
		ld x18, 8(x5)
		beq x17, x7, 48
		blt x7, x17, 48
		addi x10, x18, 0
		ld x11, 16(x5)
		ld x12, 24(x5)
		ecall
		sd x10, 0(x6)
		addi x9, x10, 0
		addi x5, x5, 32
		addi x6, x6, 8
		jal x0, -52
		fence
		bne x9, x0, -16
		addi x5, x18, 0
		addi x6, x18, -768
		srli x6, x6, 2
		addi x6, x6, 1536
		jal x0, -80`)
	data := ""
	for i := range 8 {
		s := ""
		if i < len(strs) {
			s = strs[i]
		}
		data += s + strings.Repeat("\x00", 32-len(s))
	}
	for _, r := range rows {
		if r[0] == jump || r[0] == always {
			r[1] = rowsAt + 32*r[1]
		}
		for _, v := range r {
			data += word.Bytes(uint64(v), 8)
		}
	}
	if len(data) > 992 {
		t.Fatal("a script of too many rows")
	}
	data += strings.Repeat("\x00", 1024-len(data))
	return api.Prog{Text: code, Data: data, Bss: 2048}
}

// answer is what the i-th row of a process's script was answered.
func answerOf(t *testing.T, k *Kernel, pid, i int) int {
	t.Helper()
	s, e := k.Peek(pid, uint64(answers+8*i), 8)
	ok(t, e)
	return int(word.Of(s))
}

// scripted is a kernel whose /init is that script, which has made so many steps.
func scripted(t *testing.T, more func(x *tree.Tree), rows []row, strs ...string) *Kernel {
	t.Helper()
	k := boot(t, packed(t, file(t, script(t, rows, strs...)), more), 128, 1)
	run(t, k, 40+20*len(rows))
	return k
}

// want fails, unless the rows of the pid 0 were answered so.
func want(t *testing.T, k *Kernel, answers ...int) {
	t.Helper()
	for i, v := range answers {
		if got := answerOf(t, k, 0, i); got != v {
			t.Errorf("row %d: %d, not %d", i, got, v)
		}
	}
}

func TestScripts(t *testing.T) {
	k := scripted(t, nil, []row{{api.SysPid}, {api.SysWrite, 1, str(0), 3}, {always, 4}, {api.SysWrite, 1, str(0), 3}, {api.SysPid}, {jump, 7}, {api.SysWrite, 1, str(0), 3}, {api.SysWrite, 1, str(1), 2}}, "abc", "de")
	if k.Console() != "abcde" {
		t.Error(k.Console())
	}
	want(t, k, 0, 3, 0, 0, 0, 0, 0, 2)
}
