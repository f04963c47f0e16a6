package hart

import (
	"testing"

	"binnacle/api"
	"binnacle/inst"
	"binnacle/phys"
	"binnacle/walk"
	"binnacle/word"
)

func less(n uint64) uint64 { return -n }

// The pages of rig, by what may be done: all; reading; writing; fetching; nothing; and two that lead to one frame.
const (
	all    = 0
	reads  = 256
	writes = 512
	runs   = 768
	shut   = 1024
	twin   = 1280
)

// rig is a memory of 16 frames with a space whose root is 0; the page p stands in the frame 8 + p.
func rig(t *testing.T) *phys.Mem {
	t.Helper()
	m, e := phys.New(16)
	if e != api.OK {
		t.Fatal(e)
	}
	m.Store(0, 8, walk.Entry(1, api.PteV))
	m.Store(256, 8, walk.Entry(2, api.PteV))
	for page, bits := range []uint64{31, 1 | 2 | 16, 1 | 4 | 16, 1 | 8 | 16, 1 | 2 | 4 | 8} {
		m.Store(512+8*uint64(page), 8, walk.Entry(8+page, bits))
	}
	m.Store(512+40, 8, walk.Entry(8, 31))
	return m
}

// lay puts an instruction at an address of the page 0.
func lay(t *testing.T, m *phys.Mem, at uint64, x api.Inst) {
	t.Helper()
	w, e := inst.Encode(x)
	if e != api.OK {
		t.Fatal(x, e)
	}
	m.Store(8*256+at, 4, uint64(w))
}

// start is a hart with other values in all registers, about to step at 64.
func start() api.Hart {
	h := api.Hart{PC: 64}
	for i := range h.X {
		h.X[i] = uint64(i) * 0x0101010101010101
	}
	return h
}

// one steps once over x, which stands at 64; what may not be of any step is looked at here.
func one(t *testing.T, m *phys.Mem, h api.Hart, x api.Inst) (api.Hart, api.Event) {
	t.Helper()
	lay(t, m, h.PC, x)
	before, _ := m.Get(0, 16*256)
	g, ev, e := Step(m, 0, h)
	after, _ := m.Get(0, 16*256)
	if e != api.OK || g.X[0] != 0 {
		t.Fatal(x, e, g.X[0])
	}
	if ev.Kind != api.EvNone {
		h.X[0] = 0
		if g != h || ev.Wrote {
			t.Fatal(x, "the hart changed", g, ev)
		}
	}
	if !ev.Wrote && (before != after || ev.Kind == api.EvNone && ev.Addr != 0) {
		t.Fatal(x, "memory changed, or an address of nothing", ev)
	}
	return g, ev
}

func TestArguments(t *testing.T) { // P5.1
	m := rig(t)
	for _, root := range []int{-1, 16, 1 << 60, -1 << 63} {
		if h, ev, e := Step(m, root, start()); h != (api.Hart{}) || ev != (api.Event{}) || e != api.ErrArg {
			t.Error(root, e)
		}
	}
	if h, ev, e := Step(nil, 0, start()); h != (api.Hart{}) || ev != (api.Event{}) || e != api.ErrArg {
		t.Error("no memory", e)
	}
}

func TestFetch(t *testing.T) { // P5.1
	m := rig(t)
	for _, pc := range []uint64{1, 2, 63, reads, writes, shut, 6 * 256, 32 * 256, api.Space, less(4), less(1)} {
		h := start()
		h.PC = pc
		want := h
		want.X[0] = 0
		h.X[0] = 5
		if g, ev, e := Step(m, 0, h); g != want || ev != (api.Event{Kind: api.EvFetch, Addr: pc}) || e != api.OK {
			t.Error(pc, ev, e)
		}
	}
	w, _ := inst.Encode(api.Inst{Op: api.Addi, Rd: 5, Imm: 9})
	m.Store(11*256+252, 4, uint64(w))
	h := start()
	h.PC = runs + 252
	if g, ev, _ := Step(m, 0, h); g.X[5] != 9 || g.PC != runs+256 || ev != (api.Event{}) {
		t.Error("a page to fetch from", g, ev)
	}
}

func TestStops(t *testing.T) { // P5.1
	m := rig(t)
	if _, ev := one(t, m, start(), api.Inst{Op: api.Ecall}); ev != (api.Event{Kind: api.EvCall}) {
		t.Error(ev)
	}
	if _, ev := one(t, m, start(), api.Inst{Op: api.Ebreak}); ev != (api.Event{Kind: api.EvBreak}) {
		t.Error(ev)
	}
	m.Store(8*256+64, 4, 0)
	h := start()
	want := h
	h.X[0] = 7
	if g, ev, e := Step(m, 0, h); g != want || ev != (api.Event{Kind: api.EvIllegal}) || e != api.OK {
		t.Error(ev, e)
	}
	if g, ev := one(t, m, start(), api.Inst{Op: api.Fence}); ev != (api.Event{}) || g.PC != 68 {
		t.Error(ev)
	}
}

func TestReckoning(t *testing.T) { // P5.1
	m := rig(t)
	samples := []uint64{0, 1, 5, 31, 63, 64, 2047, less(1), less(2048), 1 << 31, 1 << 63, 0xdeadbeefcafe}
	for op := api.Add; op <= api.Remuw; op++ {
		for _, a := range samples {
			for _, b := range samples {
				h := start()
				h.X[3], h.X[4] = a, b
				want, _ := word.Reckon(op, a, b)
				after := h
				after.PC, after.X[3] = 68, want
				if g, ev := one(t, m, h, api.Inst{Op: op, Rd: 3, Rs1: 3, Rs2: 4}); g != after || ev != (api.Event{}) {
					t.Fatal(op, a, b, g.X[3], want)
				}
			}
		}
	}
	pairs := map[int]int{api.Addi: api.Add, api.Slti: api.Slt, api.Sltiu: api.Sltu, api.Xori: api.Xor, api.Ori: api.Or, api.Andi: api.And, api.Slli: api.Sll, api.Srli: api.Srl, api.Srai: api.Sra, api.Addiw: api.Addw, api.Slliw: api.Sllw, api.Srliw: api.Srlw, api.Sraiw: api.Sraw}
	for op, other := range pairs {
		for _, imm := range []int64{0, 1, 31, 63, -1, -2048, 2047} {
			x := api.Inst{Op: op, Rd: 9, Rs1: 8, Imm: imm}
			if !inst.May(x) {
				continue
			}
			for _, a := range samples {
				h := start()
				h.X[8] = a
				want, _ := word.Reckon(other, a, uint64(imm))
				if g, _ := one(t, m, h, x); g.X[9] != want || g.PC != 68 {
					t.Fatal(op, a, imm, g.X[9], want)
				}
			}
		}
	}
	if g, _ := one(t, m, start(), api.Inst{Op: api.Lui, Rd: 1, Imm: -4096}); g.X[1] != less(4096) {
		t.Error("Lui", g.X[1])
	}
	if g, _ := one(t, m, start(), api.Inst{Op: api.Auipc, Rd: 1, Imm: -4096}); g.X[1] != less(4096-64) {
		t.Error("Auipc", g.X[1])
	}
	h := start()
	h.X[0] = 77
	if g, _ := one(t, m, h, api.Inst{Op: api.Addi, Rd: 1, Imm: 3}); g.X[1] != 3 {
		t.Error("X[0] counts", g.X[1])
	}
	if g, _ := one(t, m, h, api.Inst{Op: api.Addi, Rd: 0, Imm: 3}); g.X[0] != 0 {
		t.Error("X[0] is written", g.X[0])
	}
}

func TestJumps(t *testing.T) { // P5.1
	m := rig(t)
	if g, _ := one(t, m, start(), api.Inst{Op: api.Jal, Rd: 1, Imm: -64}); g.PC != 0 || g.X[1] != 68 {
		t.Error("Jal", g)
	}
	if g, _ := one(t, m, start(), api.Inst{Op: api.Jal, Imm: -68}); g.PC != less(4) || g.X[0] != 0 {
		t.Error("Jal below 0", g)
	}
	if _, ev := one(t, m, start(), api.Inst{Op: api.Jal, Rd: 1, Imm: 2}); ev != (api.Event{Kind: api.EvFetch, Addr: 66}) {
		t.Error("Jal", ev)
	}
	h := start()
	h.X[1] = 1000
	if g, _ := one(t, m, h, api.Inst{Op: api.Jalr, Rd: 1, Rs1: 1, Imm: 9}); g.PC != 1008 || g.X[1] != 68 {
		t.Error("Jalr", g)
	}
	if _, ev := one(t, m, h, api.Inst{Op: api.Jalr, Rd: 1, Rs1: 1, Imm: 7}); ev != (api.Event{Kind: api.EvFetch, Addr: 1006}) {
		t.Error("Jalr", ev)
	}
	pairs := [][2]uint64{{0, 0}, {1, 2}, {2, 1}, {less(1), 1}, {1, less(1)}, {less(1), less(1)}, {1 << 63, 0}, {0, 1 << 63}}
	for op := api.Beq; op <= api.Bgeu; op++ {
		for _, p := range pairs {
			h := start()
			h.X[1], h.X[2] = p[0], p[1]
			a, b := int64(p[0]), int64(p[1])
			takes := [...]bool{a == b, a != b, a < b, a >= b, p[0] < p[1], p[0] >= p[1]}[op-api.Beq]
			pc, odd := uint64(68), api.Event{}
			if takes {
				pc, odd = less(4096-64), api.Event{Kind: api.EvFetch, Addr: 64 + 4094}
			}
			if g, ev := one(t, m, h, api.Inst{Op: op, Rs1: 1, Rs2: 2, Imm: -4096}); g.PC != pc || ev != (api.Event{}) {
				t.Error(op, p, g.PC, ev)
			}
			if g, ev := one(t, m, h, api.Inst{Op: op, Rs1: 1, Rs2: 2, Imm: 4094}); ev != odd || !takes && g.PC != 68 {
				t.Error(op, p, ev)
			}
		}
	}
}

const bytes = 0x8182838485868788

func TestLoads(t *testing.T) { // P5.1
	m := rig(t)
	m.Store(9*256+248, 8, bytes)
	for i, op := range []int{api.Lb, api.Lh, api.Lw, api.Ld, api.Lbu, api.Lhu, api.Lwu} {
		size := []int{1, 2, 4, 8, 1, 2, 4}[i]
		want := word.Low(bytes, 8*size)
		if i < 3 {
			want = word.Sign(bytes, 8*size)
		}
		h := start()
		h.X[4] = reads + 248 + 5
		after := h
		after.X[4], after.PC = want, 68
		if g, ev := one(t, m, h, api.Inst{Op: op, Rd: 4, Rs1: 4, Imm: -5}); g != after || ev != (api.Event{}) {
			t.Errorf("%d: %x %v", op, g.X[4], ev)
		}
		for _, at := range []uint64{reads + 249, writes, runs, shut, 6 * 256, api.Space, less(8)} {
			if at == reads+249 && size == 1 {
				continue
			}
			h.X[4] = at - 8
			if _, ev := one(t, m, h, api.Inst{Op: op, Rd: 1, Rs1: 4, Imm: 8}); ev != (api.Event{Kind: api.EvLoad, Addr: at}) {
				t.Error(op, at, ev)
			}
		}
	}
}

func TestStores(t *testing.T) { // P5.1, P5.2
	for i, op := range []int{api.Sb, api.Sh, api.Sw, api.Sd} {
		size := 1 << i
		m := rig(t)
		m.Store(10*256+240, 8, less(1))
		m.Store(10*256+248, 8, less(1))
		h := start()
		h.X[4], h.X[5], h.Held, h.At = writes+248+5, bytes, true, 10*256+248
		after := h
		after.PC = 68
		before, _ := m.Get(0, 64)
		if g, ev := one(t, m, h, api.Inst{Op: op, Rs1: 4, Rs2: 5, Imm: -5}); g != after || ev != (api.Event{Wrote: true, Addr: 10*256 + 248}) {
			t.Error(op, ev)
		}
		want := less(1)<<(4*size)<<(4*size) | word.Low(bytes, 8*size)
		v, _ := m.Load(10*256+248, 8)
		w, _ := m.Load(10*256+240, 8)
		if rest, _ := m.Get(0, 64); v != want || w != less(1) || rest != before {
			t.Errorf("%d: %x", op, v)
		}
		for _, at := range []uint64{writes + 249, reads, runs, shut, 6 * 256, api.Space, less(8)} {
			if at == writes+249 && size == 1 {
				continue
			}
			h.X[4] = at + 8
			if _, ev := one(t, m, h, api.Inst{Op: op, Rs1: 4, Rs2: 5, Imm: -8}); ev != (api.Event{Kind: api.EvStore, Addr: at}) {
				t.Error(op, at, ev)
			}
		}
	}
}

func TestReserving(t *testing.T) { // P5.1
	for _, x := range []struct {
		lr, sc, size int
	}{{api.LrW, api.ScW, 4}, {api.LrD, api.ScD, 8}} {
		m := rig(t)
		m.Store(9*256+8, 8, bytes)
		h := start()
		h.X[4] = reads + 8
		g, ev := one(t, m, h, api.Inst{Op: x.lr, Rd: 3, Rs1: 4, Imm: 3})
		if g.X[3] != word.Sign(bytes, 8*x.size) || !g.Held || g.At != 9*256+8 || g.PC != 68 || ev != (api.Event{}) {
			t.Error("lr", g, ev)
		}
		for _, at := range []uint64{reads + 8 + uint64(x.size)/2, writes, runs, shut, less(8)} {
			h.X[4] = at
			if _, ev := one(t, m, h, api.Inst{Op: x.lr, Rd: 3, Rs1: 4}); ev != (api.Event{Kind: api.EvLoad, Addr: at}) {
				t.Error("lr", at, ev)
			}
		}
		for _, at := range []uint64{writes + uint64(x.size)/2, reads, runs, shut, less(8)} {
			h.X[4], h.Held, h.At = at, true, 9*256
			if _, ev := one(t, m, h, api.Inst{Op: x.sc, Rd: 3, Rs1: 4, Rs2: 5}); ev != (api.Event{Kind: api.EvStore, Addr: at}) {
				t.Error("sc", at, ev)
			}
		}
		h = start()
		h.X[4], h.X[5], h.Held, h.At = twin+128, bytes, true, 8*256+128 // another page of that frame
		g, ev = one(t, m, h, api.Inst{Op: x.sc, Rd: 3, Rs1: 4, Rs2: 5})
		v, _ := m.Load(8*256+128, 8)
		if g.X[3] != 0 || g.Held || g.At != 0 || ev != (api.Event{Wrote: true, Addr: 8*256 + 128}) || v != word.Low(bytes, 8*x.size) {
			t.Error("sc", g, ev, v)
		}
		for _, r := range []struct {
			held bool
			at   uint64
		}{{false, 8*256 + 128}, {true, 8*256 + 136}, {true, 0}} {
			h.Held, h.At = r.held, r.at
			g, ev = one(t, m, h, api.Inst{Op: x.sc, Rd: 3, Rs1: 4, Rs2: 5})
			if g.X[3] != 1 || g.Held || g.At != 0 || ev != (api.Event{}) || g.PC != 68 {
				t.Error("sc refused", g, ev)
			}
		}
	}
}

func TestSwaps(t *testing.T) { // P5.1, P5.2
	for op := api.SwapW; op <= api.MaxuD; op++ {
		if op == api.LrD || op == api.ScD {
			continue
		}
		size := 4
		if op >= api.LrD {
			size = 8
		}
		m := rig(t)
		m.Store(8*256+128, 8, bytes)
		h := start()
		h.X[4], h.X[5], h.Held, h.At = 128, 0x70f0f0f070f0f0f0, true, 5
		want, _ := word.Amo(op, word.Low(bytes, 8*size), h.X[5])
		g, ev := one(t, m, h, api.Inst{Op: op, Rd: 5, Rs1: 4, Rs2: 5, Imm: 2})
		v, _ := m.Load(8*256+128, 8)
		if g.X[5] != word.Sign(bytes, 8*size) || ev != (api.Event{Wrote: true, Addr: 8*256 + 128}) || g.PC != 68 || !g.Held || g.At != 5 {
			t.Errorf("%d: %x %v", op, g.X[5], ev)
		}
		if v != bytes>>(4*size)>>(4*size)<<(4*size)<<(4*size)|want {
			t.Errorf("%d: %x", op, v)
		}
		for _, at := range []uint64{128 + uint64(size)/2, reads, writes, runs, shut, less(8)} {
			h.X[4] = at
			if _, ev := one(t, m, h, api.Inst{Op: op, Rd: 5, Rs1: 4, Rs2: 5}); ev != (api.Event{Kind: api.EvStore, Addr: at}) {
				t.Error(op, at, ev)
			}
		}
	}
}

func TestExamples(t *testing.T) { // P5.1
	m := rig(t)
	m.Store(8*256, 4, 0x00500093)
	m.Store(8*256+4, 4, 0x0000a103)
	m.Store(8*256+8, 4, 0x73)
	h, ev, _ := Step(m, 0, api.Hart{})
	if h.PC != 4 || h.X[1] != 5 || ev != (api.Event{}) {
		t.Error(h, ev)
	}
	if g, ev, _ := Step(m, 0, h); g != h || ev != (api.Event{Kind: api.EvLoad, Addr: 5}) {
		t.Error(ev)
	}
	h.PC = 8
	if g, ev, _ := Step(m, 0, h); g != h || ev != (api.Event{Kind: api.EvCall}) {
		t.Error(ev)
	}
}

func BenchmarkStep(b *testing.B) {
	m, _ := phys.New(16)
	m.Store(0, 8, walk.Entry(1, api.PteV))
	m.Store(256, 8, walk.Entry(2, api.PteV))
	m.Store(512, 8, walk.Entry(8, 31))
	m.Store(8*256, 4, 0x00008093) // addi x1, x1, 0
	for range b.N {
		Step(m, 0, api.Hart{})
	}
}
