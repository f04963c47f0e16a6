package word

import (
	"math/big"
	"testing"

	"binnacle/api"
)

func less(n uint64) uint64 { return -n }

// sample are words at the edges of all widths, and some between.
func sample() []uint64 {
	out := []uint64{0, 1, 2, 3, 7, 16, 31, 32, 33, 63, 64, 65, 0x123456789abcdef, 0xdeadbeefcafebabe}
	for _, bits := range []uint{7, 8, 15, 16, 31, 32, 33, 62, 63} {
		for _, d := range []uint64{less(1), 0, 1} {
			out = append(out, uint64(1)<<bits+d, less(uint64(1)<<bits+d))
		}
	}
	return append(out, less(1), less(2), less(7))
}

// signed and plain are a word as whole numbers.
func signed(v uint64) *big.Int { return big.NewInt(int64(v)) }
func plain(v uint64) *big.Int  { return new(big.Int).SetUint64(v) }

func round(x *big.Int) uint64 {
	return new(big.Int).And(x, plain(less(1))).Uint64()
}

func TestLowAndSign(t *testing.T) { // P1.1
	for _, v := range sample() {
		for bits := -3; bits < 70; bits++ {
			low, sign := uint64(0), uint64(0)
			if bits > 0 {
				n := min(bits, 64)
				m := new(big.Int).Lsh(big.NewInt(1), uint(n))
				x := new(big.Int).Mod(plain(v), m)
				low = round(x)
				if x.Bit(n-1) == 1 {
					x.Sub(x, m)
				}
				sign = round(x)
			}
			if Low(v, bits) != low || Sign(v, bits) != sign {
				t.Fatalf("%x, %d: %x, %x", v, bits, Low(v, bits), Sign(v, bits))
			}
		}
	}
	least := -int(^uint(0)>>1) - 1
	if Low(9, least) != 0 || Sign(9, least) != 0 || Low(9, -(least+1)) != 9 || Sign(9, -(least+1)) != 9 {
		t.Error("widths far off")
	}
}

// want is what the chapter's table says, reckoned with whole numbers.
func want(op int, a, b uint64) uint64 {
	x, y, ux, uy := signed(a), signed(b), plain(a), plain(b)
	z := new(big.Int)
	count := uint(b & 63)
	is := func(yes bool) uint64 {
		if yes {
			return 1
		}
		return 0
	}
	switch op {
	case api.Add:
		z.Add(x, y)
	case api.Sub:
		z.Sub(x, y)
	case api.Sll:
		z.Lsh(x, count)
	case api.Srl:
		z.Rsh(ux, count)
	case api.Sra:
		z.Rsh(x, count)
	case api.Slt:
		return is(x.Cmp(y) < 0)
	case api.Sltu:
		return is(ux.Cmp(uy) < 0)
	case api.Xor:
		return a ^ b
	case api.Or:
		return a | b
	case api.And:
		return a & b
	case api.Mul:
		z.Mul(x, y)
	case api.Mulh:
		z.Rsh(z.Mul(x, y), 64)
	case api.Mulhsu:
		z.Rsh(z.Mul(x, uy), 64)
	case api.Mulhu:
		z.Rsh(z.Mul(ux, uy), 64)
	case api.Div, api.Divu:
		if b == 0 {
			return less(1)
		}
		if op == api.Divu {
			x, y = ux, uy
		}
		z.Quo(x, y)
	case api.Rem, api.Remu:
		if b == 0 {
			return a
		}
		if op == api.Remu {
			x, y = ux, uy
		}
		z.Rem(x, y)
	}
	return round(z)
}

func TestReckonWide(t *testing.T) { // P1.2
	for _, op := range []int{api.Add, api.Sub, api.Sll, api.Slt, api.Sltu, api.Xor, api.Srl, api.Sra, api.Or, api.And, api.Mul, api.Mulh, api.Mulhsu, api.Mulhu, api.Div, api.Divu, api.Rem, api.Remu} {
		for _, a := range sample() {
			for _, b := range sample() {
				if v, ok := Reckon(op, a, b); !ok || v != want(op, a, b) {
					t.Fatalf("%d: %x, %x: %x %v, not %x", op, a, b, v, ok, want(op, a, b))
				}
			}
		}
	}
}

func TestReckonNarrow(t *testing.T) { // P1.2, P1.5
	rows := []struct {
		op, wide int
		signs    bool
		bits     int
	}{{api.Addw, api.Add, true, 32}, {api.Subw, api.Sub, true, 32}, {api.Sllw, api.Sll, true, 5}, {api.Srlw, api.Srl, false, 5}, {api.Sraw, api.Sra, true, 5}, {api.Mulw, api.Mul, true, 32}, {api.Divw, api.Div, true, 32}, {api.Divuw, api.Divu, false, 32}, {api.Remw, api.Rem, true, 32}, {api.Remuw, api.Remu, false, 32}}
	for _, x := range rows {
		for _, a := range sample() {
			for _, b := range sample() {
				p, q := Low(a, 32), Low(b, 32)
				if x.signs {
					p, q = Sign(a, 32), Sign(b, 32)
				}
				if x.bits == 5 {
					q = Low(q, 5)
				}
				v, ok := Reckon(x.op, a, b)
				if !ok || v != Sign(want(x.wide, p, q), 32) || v != Sign(v, 32) {
					t.Fatalf("%d: %x, %x: %x %v", x.op, a, b, v, ok)
				}
			}
		}
	}
}

func TestReckonOthers(t *testing.T) { // P1.2
	for op := -5; op < 200; op++ {
		v, ok := Reckon(op, 6, 3)
		if ok != (op >= api.Add && op <= api.Remuw) || !ok && v != 0 {
			t.Errorf("%d: %d %v", op, v, ok)
		}
	}
}

func TestReckonExamples(t *testing.T) { // P1.2
	for i, x := range []struct {
		op      int
		a, b, v uint64
	}{{api.Div, 7, 0, less(1)}, {api.Rem, 7, 0, 7}, {api.Div, 1 << 63, less(1), 1 << 63}, {api.Rem, 1 << 63, less(1), 0}, {api.Mulhu, less(1), less(1), less(2)}, {api.Mulh, less(1), less(1), 0}, {api.Mulhsu, less(1), less(1), less(1)}, {api.Addw, 1<<31 - 1, 1, less(1 << 31)}, {api.Srlw, less(1), 4, 1<<28 - 1}, {api.Divw, 1 << 31, less(1), less(1 << 31)}, {api.Remw, 1 << 31, less(1), 0}, {api.Divuw, 5, 1 << 32, less(1)}, {api.Remuw, 1 << 31, 0, less(1 << 31)}, {api.Div, less(7), 2, less(3)}, {api.Rem, less(7), 2, less(1)}} {
		if v, ok := Reckon(x.op, x.a, x.b); v != x.v || !ok {
			t.Errorf("%d: %x %v", i, v, ok)
		}
	}
}

func TestDivAndRem(t *testing.T) { // P1.5
	for _, a := range sample() {
		for _, b := range sample() {
			q, _ := Reckon(api.Div, a, b)
			r, _ := Reckon(api.Rem, a, b)
			if b != 0 && q*b+r != a {
				t.Fatalf("%x, %x: %x, %x", a, b, q, r)
			}
		}
	}
}

// wantAmo is what the chapter says of whole words.
func wantAmo(op int, old, b uint64) uint64 {
	pick := func(first bool) uint64 {
		if first {
			return old
		}
		return b
	}
	switch op {
	case api.AddD:
		return old + b
	case api.XorD:
		return old ^ b
	case api.AndD:
		return old & b
	case api.OrD:
		return old | b
	case api.MinD:
		return pick(int64(old) < int64(b))
	case api.MaxD:
		return pick(int64(old) > int64(b))
	case api.MinuD:
		return pick(old < b)
	case api.MaxuD:
		return pick(old > b)
	}
	return b
}

func TestAmo(t *testing.T) { // P1.3
	for op := api.SwapD; op <= api.MaxuD; op++ {
		for _, a := range sample() {
			for _, b := range sample() {
				if v, ok := Amo(op, a, b); !ok || v != wantAmo(op, a, b) {
					t.Fatalf("%d: %x, %x: %x %v", op, a, b, v, ok)
				}
				narrow := op - api.SwapD + api.SwapW
				p, q := Sign(a, 32), Sign(b, 32)
				if narrow == api.MinuW || narrow == api.MaxuW {
					p, q = Low(a, 32), Low(b, 32)
				}
				if v, ok := Amo(narrow, a, b); !ok || v != Low(wantAmo(op, p, q), 32) {
					t.Fatalf("%d: %x, %x: %x %v", narrow, a, b, v, ok)
				}
			}
		}
	}
	for op := -5; op < 200; op++ {
		v, ok := Amo(op, 1, 2)
		is := op >= api.SwapW && op <= api.MaxuW || op >= api.SwapD && op <= api.MaxuD
		if ok != is || !ok && v != 0 {
			t.Errorf("%d: %d %v", op, v, ok)
		}
	}
	if v, _ := Amo(api.MinuW, less(1), 5); v != 5 {
		t.Error("MinuW", v)
	}
}

func TestBytesAndOf(t *testing.T) { // P1.4, P1.5
	full := "\x08\x07\x06\x05\x04\x03\x02\x01"
	for size := -3; size < 12; size++ {
		n := min(max(size, 0), 8)
		if s := Bytes(0x0102030405060708, size); s != full[:n] {
			t.Errorf("%d: %x", size, s)
		}
		for _, v := range sample() {
			if Of(Bytes(v, size)) != Low(v, 8*n) {
				t.Errorf("%x, %d", v, size)
			}
		}
	}
	if Of("") != 0 || Of("\xff\x01") != 0x1ff || Of(full+"zzz") != 0x0102030405060708 {
		t.Error("Of")
	}
}
