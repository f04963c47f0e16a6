// Package word is layer 1: see shared/doc/01-word.md.
package word

import (
	"binnacle/api"
)

// Sign is a number of so many bits with a sign.
func Sign(v uint64, bits int) uint64 {
	if bits <= 0 {
		return 0
	}
	if bits >= 64 {
		return v
	}
	away := uint(64 - bits)
	return uint64(int64(v<<away) >> away)
}

// Low are the lowest bits of a word.
func Low(v uint64, bits int) uint64 {
	if bits <= 0 {
		return 0
	}
	if bits >= 64 {
		return v
	}
	return v & (1<<uint(bits) - 1)
}

// Reckon reckons as an instruction does.
func Reckon(op int, a, b uint64) (uint64, bool) {
	take := Sign
	switch op {
	case api.Srlw, api.Divuw, api.Remuw:
		take = Low
		fallthrough
	case api.Addw, api.Subw, api.Sllw, api.Sraw, api.Mulw, api.Divw, api.Remw:
		b = take(b, 32)
		if isShift(op) {
			b = Low(b, 5)
		}
		v, ok := whole(wide(op), take(a, 32), b)
		return Sign(v, 32), ok
	}
	return whole(op, a, b)
}

// isShift tells the opcodes of 32 bits whose second number counts fewer bits than that of their wide ones.
func isShift(op int) bool {
	return op == api.Sllw || op == api.Srlw || op == api.Sraw
}

// wide is the opcode that does with 64 bits what op does with 32.
func wide(op int) int {
	switch op {
	case api.Addw:
		return api.Add
	case api.Subw:
		return api.Sub
	case api.Sllw:
		return api.Sll
	case api.Srlw:
		return api.Srl
	case api.Sraw:
		return api.Sra
	case api.Mulw:
		return api.Mul
	case api.Divw:
		return api.Div
	case api.Divuw:
		return api.Divu
	case api.Remw:
		return api.Rem
	}
	return api.Remu
}

// whole reckons with all 64 bits.
func whole(op int, a, b uint64) (uint64, bool) {
	switch op {
	case api.Add:
		return a + b, true
	case api.Sub:
		return a - b, true
	case api.Sll:
		return a << (b & 63), true
	case api.Srl:
		return a >> (b & 63), true
	case api.Sra:
		return uint64(int64(a) >> (b & 63)), true
	case api.Slt:
		return truth(int64(a) < int64(b)), true
	case api.Sltu:
		return truth(a < b), true
	case api.Xor:
		return a ^ b, true
	case api.Or:
		return a | b, true
	case api.And:
		return a & b, true
	}
	return product(op, a, b)
}

// product reckons the opcodes of products and quotients.
func product(op int, a, b uint64) (uint64, bool) {
	switch op {
	case api.Mul:
		return a * b, true
	case api.Mulh:
		return high(a, b) - above(a, b) - above(b, a), true
	case api.Mulhsu:
		return high(a, b) - above(a, b), true
	case api.Mulhu:
		return high(a, b), true
	case api.Div:
		return quotient(a, b), true
	case api.Divu:
		if b == 0 {
			return ^uint64(0), true
		}
		return a / b, true
	case api.Rem:
		return rest(a, b), true
	case api.Remu:
		if b == 0 {
			return a, true
		}
		return a % b, true
	}
	return 0, false
}

func truth(yes bool) uint64 {
	if yes {
		return 1
	}
	return 0
}

// high are the 64 bits above the lowest 64 of the product without signs.
func high(a, b uint64) uint64 {
	part := func(i, j uint) uint64 { return Low(a>>i, 32) * Low(b>>j, 32) }
	left, right := part(32, 0), part(0, 32)
	carry := (part(0, 0)>>32 + Low(left, 32) + Low(right, 32)) >> 32
	return part(32, 32) + left>>32 + right>>32 + carry
}

// above is what the product without signs has too much above its lowest 64 bits, if a is below 0: 2^64 times b.
func above(a, b uint64) uint64 {
	if int64(a) < 0 {
		return b
	}
	return 0
}

func quotient(a, b uint64) uint64 {
	switch b {
	case 0:
		return ^uint64(0)
	case ^uint64(0): // the least number's quotient is no number with a sign: less a goes round to itself
		return -a
	}
	return uint64(int64(a) / int64(b))
}

func rest(a, b uint64) uint64 {
	switch b {
	case 0:
		return a
	case ^uint64(0):
		return 0
	}
	return uint64(int64(a) % int64(b))
}

// Amo is what becomes of a word in memory.
func Amo(op int, old, b uint64) (uint64, bool) {
	take, bits := Sign, 64
	switch op {
	case api.MinuW, api.MaxuW:
		take = Low
		fallthrough
	case api.SwapW, api.AddW, api.XorW, api.AndW, api.OrW, api.MinW, api.MaxW:
		bits = 32
		op += api.SwapD - api.SwapW
	case api.SwapD, api.AddD, api.XorD, api.AndD, api.OrD, api.MinD, api.MaxD, api.MinuD, api.MaxuD:
	default:
		return 0, false
	}
	return Low(swap(op, take(old, bits), take(b, bits)), bits), true
}

// swap is what Amo makes of all 64 bits.
func swap(op int, old, b uint64) uint64 {
	switch op {
	case api.AddD:
		return old + b
	case api.XorD:
		return old ^ b
	case api.AndD:
		return old & b
	case api.OrD:
		return old | b
	case api.MinD:
		return uint64(min(int64(old), int64(b)))
	case api.MaxD:
		return uint64(max(int64(old), int64(b)))
	case api.MinuD:
		return min(old, b)
	case api.MaxuD:
		return max(old, b)
	}
	return b
}

// Bytes is a word as bytes, the lowest first.
func Bytes(v uint64, size int) string {
	size = min(max(size, 0), 8)
	var row [8]byte
	for i := range size {
		row[i] = byte(v >> (8 * uint(i)))
	}
	return string(row[:size])
}

// Of is the word of bytes.
func Of(s string) uint64 {
	var v uint64
	for i := range min(len(s), 8) {
		v |= uint64(s[i]) << (8 * uint(i))
	}
	return v
}
