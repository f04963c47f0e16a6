package inst

import (
	"strconv"
	"strings"
	"testing"

	"binnacle/api"
)

// table is the chapter's: name, opcode's number, form, opcode, f3, f7.
const table = `lui 1 U 37 0 0
auipc 2 U 17 0 0
jal 3 J 6f 0 0
jalr 4 I 67 0 0
beq 5 B 63 0 0
bne 6 B 63 1 0
blt 7 B 63 4 0
bge 8 B 63 5 0
bltu 9 B 63 6 0
bgeu 10 B 63 7 0
lb 11 I 3 0 0
lh 12 I 3 1 0
lw 13 I 3 2 0
ld 14 I 3 3 0
lbu 15 I 3 4 0
lhu 16 I 3 5 0
lwu 17 I 3 6 0
sb 18 S 23 0 0
sh 19 S 23 1 0
sw 20 S 23 2 0
sd 21 S 23 3 0
addi 22 I 13 0 0
slti 23 I 13 2 0
sltiu 24 I 13 3 0
xori 25 I 13 4 0
ori 26 I 13 6 0
andi 27 I 13 7 0
slli 28 H 13 1 0
srli 29 H 13 5 0
srai 30 H 13 5 20
addiw 31 I 1b 0 0
slliw 32 V 1b 1 0
srliw 33 V 1b 5 0
sraiw 34 V 1b 5 20
add 35 R 33 0 0
sub 36 R 33 0 20
sll 37 R 33 1 0
slt 38 R 33 2 0
sltu 39 R 33 3 0
xor 40 R 33 4 0
srl 41 R 33 5 0
sra 42 R 33 5 20
or 43 R 33 6 0
and 44 R 33 7 0
addw 45 R 3b 0 0
subw 46 R 3b 0 20
sllw 47 R 3b 1 0
srlw 48 R 3b 5 0
sraw 49 R 3b 5 20
mul 50 R 33 0 1
mulh 51 R 33 1 1
mulhsu 52 R 33 2 1
mulhu 53 R 33 3 1
div 54 R 33 4 1
divu 55 R 33 5 1
rem 56 R 33 6 1
remu 57 R 33 7 1
mulw 58 R 3b 0 1
divw 59 R 3b 4 1
divuw 60 R 3b 5 1
remw 61 R 3b 6 1
remuw 62 R 3b 7 1
fence 63 N f 0 0
ecall 64 N 73 0 0
ebreak 65 N 100073 0 0
lr.w 66 A 2f 2 2
sc.w 67 A 2f 2 3
amoswap.w 68 A 2f 2 1
amoadd.w 69 A 2f 2 0
amoxor.w 70 A 2f 2 4
amoand.w 71 A 2f 2 c
amoor.w 72 A 2f 2 8
amomin.w 73 A 2f 2 10
amomax.w 74 A 2f 2 14
amominu.w 75 A 2f 2 18
amomaxu.w 76 A 2f 2 1c
lr.d 77 A 2f 3 2
sc.d 78 A 2f 3 3
amoswap.d 79 A 2f 3 1
amoadd.d 80 A 2f 3 0
amoxor.d 81 A 2f 3 4
amoand.d 82 A 2f 3 c
amoor.d 83 A 2f 3 8
amomin.d 84 A 2f 3 10
amomax.d 85 A 2f 3 14
amominu.d 86 A 2f 3 18
amomaxu.d 87 A 2f 3 1c`

type row struct {
	name         string
	op           int
	form         byte
	code, f3, f7 uint32
}

func rows() []row {
	var out []row
	for _, line := range strings.Split(table, "\n") {
		p := strings.Fields(line)
		op, _ := strconv.Atoi(p[1])
		code, _ := strconv.ParseUint(p[3], 16, 32)
		f3, _ := strconv.ParseUint(p[4], 16, 32)
		f7, _ := strconv.ParseUint(p[5], 16, 32)
		out = append(out, row{p[0], op, p[2][0], uint32(code), uint32(f3), uint32(f7)})
	}
	return out
}

// limits are the least and the greatest Imm of a form, and of what it is a multiple.
func limits(form byte) (int64, int64, int64) {
	switch form {
	case 'U':
		return -1 << 31, 1<<31 - 4096, 4096
	case 'J':
		return -1 << 20, 1<<20 - 2, 2
	case 'I', 'S':
		return -2048, 2047, 1
	case 'B':
		return -4096, 4094, 2
	case 'H':
		return 0, 63, 1
	case 'V':
		return 0, 31, 1
	case 'A':
		return 0, 3, 1
	}
	return 0, 0, 1
}

// has are the registers that a form has: Rd, Rs1, Rs2.
func has(r row) (bool, bool, bool) {
	switch r.form {
	case 'U', 'J':
		return true, false, false
	case 'I', 'H', 'V':
		return true, true, false
	case 'B', 'S':
		return false, true, true
	case 'R':
		return true, true, true
	case 'A':
		return true, true, !strings.HasPrefix(r.name, "lr.")
	}
	return false, false, false
}

// word is what the chapter says of an instruction's bits, put together bit by bit.
func word(r row, x api.Inst) uint32 {
	w := r.code
	put := func(to int, from, n int) { // n bits of Imm, from that one on
		for i := range n {
			w |= uint32(x.Imm>>(from+i)&1) << (to + i)
		}
	}
	if r.form == 'N' {
		return w
	}
	w |= uint32(x.Rd)<<7 | uint32(x.Rs1)<<15 | uint32(x.Rs2)<<20 | r.f3<<12
	switch r.form {
	case 'U':
		put(12, 12, 20)
	case 'J':
		put(31, 20, 1)
		put(21, 1, 10)
		put(20, 11, 1)
		put(12, 12, 8)
	case 'I':
		put(20, 0, 12)
	case 'B':
		put(31, 12, 1)
		put(25, 5, 6)
		put(8, 1, 4)
		put(7, 11, 1)
	case 'S':
		put(25, 5, 7)
		put(7, 0, 5)
	case 'H':
		put(20, 0, 6)
		w |= r.f7 >> 1 << 26
	case 'V':
		put(20, 0, 5)
		w |= r.f7 << 25
	case 'R':
		w |= r.f7 << 25
	case 'A':
		put(25, 0, 2)
		w |= r.f7 << 27
	}
	return w
}

// some are instructions of a row: with the fields at their edges and between.
func some(r row) []api.Inst {
	var out []api.Inst
	rd, rs1, rs2 := has(r)
	pick := func(there bool, n int) int {
		if there {
			return n
		}
		return 0
	}
	low, high, step := limits(r.form)
	imms := []int64{low, high, 0, high / 2 / step * step, low / 2 / step * step}
	for i := range int64(12) {
		v := step << i
		imms = append(imms, v, -v, v-step, -v-step)
	}
	for _, imm := range imms {
		if imm < low || imm > high {
			continue
		}
		for _, n := range []int{0, 1, 2, 15, 16, 30, 31} {
			out = append(out, api.Inst{Op: r.op, Rd: pick(rd, n), Rs1: pick(rs1, 31-n), Rs2: pick(rs2, n*7%32), Imm: imm})
		}
	}
	return out
}

func TestWords(t *testing.T) { // P2.1, P2.2, P2.4
	words, texts := map[uint32]api.Inst{}, map[string]api.Inst{}
	for _, r := range rows() {
		for _, x := range some(r) {
			w, e := Encode(x)
			if !May(x) || e != api.OK || w != word(r, x) {
				t.Fatalf("%s %v: %x %d, not %x", r.name, x, w, e, word(r, x))
			}
			if y, e := Decode(w); y != x || e != api.OK {
				t.Fatalf("%s %v: %x is %v", r.name, x, w, y)
			}
			s, e := Text(x)
			if e != api.OK {
				t.Fatalf("%v: %d", x, e)
			}
			if y, e := Parse(s); y != x || e != api.OK {
				t.Fatalf("%v: %q is %v %d", x, s, y, e)
			}
			if y, ok := words[w]; ok && y != x {
				t.Fatalf("%v and %v: %x", x, y, w)
			}
			if y, ok := texts[s]; ok && y != x {
				t.Fatalf("%v and %v: %s", x, y, s)
			}
			words[w], texts[s] = x, x
		}
	}
}

func TestMayNot(t *testing.T) { // P2.1, P2.2, P2.3
	refuse := func(x api.Inst) {
		t.Helper()
		w, e := Encode(x)
		s, f := Text(x)
		if May(x) || e != api.ErrInst || f != api.ErrInst || w != 0 || s != "" {
			t.Fatalf("%v: %x %d %q %d", x, w, e, s, f)
		}
	}
	for _, r := range rows() {
		rd, rs1, rs2 := has(r)
		low, high, step := limits(r.form)
		for i, there := range []bool{rd, rs1, rs2} {
			bad := []int{-1, 32, 1 << 40, -1 << 63}
			if !there {
				bad = append(bad, 1, 31)
			}
			for _, n := range bad {
				row := [3]int{}
				row[i] = n
				refuse(api.Inst{Op: r.op, Rd: row[0], Rs1: row[1], Rs2: row[2]})
			}
		}
		for _, imm := range []int64{low - step, high + step, high + 1, low - 1, 1 << 40, -1 << 63, 1<<63 - 1, 1 << 32} {
			refuse(api.Inst{Op: r.op, Imm: imm})
		}
		if step > 1 {
			refuse(api.Inst{Op: r.op, Imm: 1})
			refuse(api.Inst{Op: r.op, Imm: step + 1})
			refuse(api.Inst{Op: r.op, Imm: step / 2})
		}
	}
	for _, op := range []int{-1, 0, 88, 1 << 40, -1 << 63} {
		refuse(api.Inst{Op: op})
	}
}

func TestName(t *testing.T) { // P2.1
	for _, r := range rows() {
		if Name(r.op) != r.name {
			t.Errorf("%d: %q, not %q", r.op, Name(r.op), r.name)
		}
	}
	for _, op := range []int{0, -1, 88, 1000, -1 << 63, 1<<63 - 1} {
		if Name(op) != "" {
			t.Errorf("%d: %q", op, Name(op))
		}
	}
}

func TestDecodeAll(t *testing.T) { // P2.2: a word is the one of an instruction, or none
	n := 0
	try := func(w uint32) {
		x, e := Decode(w)
		if e != api.OK {
			if e != api.ErrInst || x != (api.Inst{}) {
				t.Fatalf("%x: %v %d", w, x, e)
			}
			return
		}
		n++
		if back, e := Encode(x); e != api.OK || back != w {
			t.Fatalf("%x: %v: %x", w, x, back)
		}
	}
	seed := uint32(1)
	for range 400000 {
		seed = seed*1664525 + 1013904223
		try(seed ^ seed>>16)
	}
	for _, r := range rows() { // all words a bit or two from those of instructions
		for _, x := range some(r)[:8] {
			w := word(r, x)
			for i := range 32 {
				try(w ^ 1<<i)
				for j := range i {
					try(w ^ 1<<i ^ 1<<j)
				}
			}
		}
	}
	if n == 0 {
		t.Error("no instruction")
	}
	for _, w := range []uint32{0, 0xffffffff, 0x8330000f, 0x100f, 0x73 | 1<<21, 0x73 | 1<<7, 0x0ff0000f, 0x1010202f, 0x00003063 ^ 0x1000} {
		if x, e := Decode(w); e != api.ErrInst {
			t.Errorf("%x: %v %d", w, x, e)
		}
	}
}

func TestExamples(t *testing.T) { // P2.2, P2.3
	for _, x := range []struct {
		i api.Inst
		w uint32
		s string
	}{
		{api.Inst{Op: api.Addi, Rd: 1, Rs1: 2, Imm: -5}, 0xffb10093, "addi x1, x2, -5"},
		{api.Inst{Op: api.Lw, Rd: 3, Rs1: 4, Imm: 8}, 0x00822183, "lw x3, 8(x4)"},
		{api.Inst{Op: api.Sd, Rs1: 2, Rs2: 1, Imm: 16}, 0x00113823, "sd x1, 16(x2)"},
		{api.Inst{Op: api.Beq, Rs1: 1, Rs2: 2, Imm: -4}, 0xfe208ee3, "beq x1, x2, -4"},
		{api.Inst{Op: api.Jal, Rd: 1, Imm: 2048}, 0x001000ef, "jal x1, 2048"},
		{api.Inst{Op: api.Srai, Rd: 1, Rs1: 1, Imm: 63}, 0x43f0d093, "srai x1, x1, 63"},
		{api.Inst{Op: api.AddW, Rd: 5, Rs1: 6, Rs2: 7, Imm: 3}, 0x067322af, "amoadd.w.aqrl x5, x7, (x6)"},
		{api.Inst{Op: api.Ecall}, 0x73, "ecall"},
	} {
		w, _ := Encode(x.i)
		s, _ := Text(x.i)
		d, _ := Decode(x.w)
		p, _ := Parse(x.s)
		if w != x.w || s != x.s || d != x.i || p != x.i {
			t.Errorf("%s: %x %q %v %v", x.s, w, s, d, p)
		}
	}
	for s, op := range map[string]api.Inst{"lr.w.rl x1, (x2)": {Op: api.LrW, Rd: 1, Rs1: 2, Imm: 1}, "sc.d.aq x1, x2, (x3)": {Op: api.ScD, Rd: 1, Rs1: 3, Rs2: 2, Imm: 2}, "jalr x0, 0(x1)": {Op: api.Jalr, Rs1: 1}, "lui x9, -4096": {Op: api.Lui, Rd: 9, Imm: -4096}, "slliw x1, x2, 31": {Op: api.Slliw, Rd: 1, Rs1: 2, Imm: 31}} {
		if x, e := Parse(s); e != api.OK || x != op {
			t.Errorf("%s: %v %d", s, x, e)
		}
		if u, e := Text(op); e != api.OK || u != s {
			t.Errorf("%s: %q", s, u)
		}
	}
}

func TestParseNot(t *testing.T) { // P2.3
	for _, s := range []string{"", " ", "addi", "addi ", "addi x1, x2", "addi x1, x2, ", "addi x1, x2, +5", "addi x1, x2, 05", "addi x1, x2, -0", "addi x01, x2, 5", "addi x1,x2,5", "addi  x1, x2, 5", " addi x1, x2, 5", "addi x1, x2, 5 ", "addi x1, x2, 5\n", "addi x1, x2, 2048", "addi x32, x2, 5", "addi y1, x2, 5", "ADDI x1, x2, 5", "add x1, x2, 3", "lw x1, x2, 8", "lw x1, 8(x2", "lw x1, 8 (x2)", "jalr x1, x2, 8", "ecall ", "ecall x1", "fence 0", "lr.w x1, x2, (x3)", "lr.w x1, (x2), ", "lr.w.aqrl", "amoadd x1, x2, (x3)", "amoadd.w.rlaq x1, x2, (x3)", "amoadd.w. x1, x2, (x3)", "addi.aq x1, x2, 5", "amoadd.w x1, x2, 0(x3)", "beq x1, x2, 3", "lui x1, 1", "jal x1, 1048576", "srai x1, x1, 64", "sraiw x1, x1, 32", "slli x1, x1, -1", "nix x1", "addi x1, x2, 99999999999999999999", "addi x1, x2, --5", "sd x1, x2, 16", "addi x1, x2, 5, 6", "\x00", "addi x1, x2, 5\x00", strings.Repeat("addi ", 1000)} {
		if x, e := Parse(s); e != api.ErrInst || x != (api.Inst{}) {
			t.Errorf("%q: %v %d", s, x, e)
		}
	}
}
