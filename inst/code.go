package inst

import (
	"binnacle/api"
)

// What an instruction's word has whatever its fields are, a byte for each opcode's number, from 0 on: its lowest seven bits, bits 14 to 12, bits 31 to 25 (of form A 31 to 27).
const (
	codes = "\x00\x37\x17\x6f\x67\x63\x63\x63\x63\x63\x63" +
		"\x03\x03\x03\x03\x03\x03\x03\x23\x23\x23\x23" +
		"\x13\x13\x13\x13\x13\x13\x13\x13\x13\x1b\x1b\x1b\x1b" +
		"\x33\x33\x33\x33\x33\x33\x33\x33\x33\x33\x3b\x3b\x3b\x3b\x3b" +
		"\x33\x33\x33\x33\x33\x33\x33\x33\x3b\x3b\x3b\x3b\x3b" +
		"\x0f\x73\x73" +
		"\x2f\x2f\x2f\x2f\x2f\x2f\x2f\x2f\x2f\x2f\x2f" +
		"\x2f\x2f\x2f\x2f\x2f\x2f\x2f\x2f\x2f\x2f\x2f"
	threes = "\x00\x00\x00\x00\x00\x00\x01\x04\x05\x06\x07" +
		"\x00\x01\x02\x03\x04\x05\x06\x00\x01\x02\x03" +
		"\x00\x02\x03\x04\x06\x07\x01\x05\x05\x00\x01\x05\x05" +
		"\x00\x00\x01\x02\x03\x04\x05\x05\x06\x07\x00\x00\x01\x05\x05" +
		"\x00\x01\x02\x03\x04\x05\x06\x07\x00\x04\x05\x06\x07" +
		"\x00\x00\x00" +
		"\x02\x02\x02\x02\x02\x02\x02\x02\x02\x02\x02" +
		"\x03\x03\x03\x03\x03\x03\x03\x03\x03\x03\x03"
	sevens = "\x00\x00\x00\x00\x00\x00\x00\x00\x00\x00\x00" +
		"\x00\x00\x00\x00\x00\x00\x00\x00\x00\x00\x00" +
		"\x00\x00\x00\x00\x00\x00\x00\x00\x20\x00\x00\x00\x20" +
		"\x00\x20\x00\x00\x00\x00\x00\x20\x00\x00\x00\x20\x00\x00\x20" +
		"\x01\x01\x01\x01\x01\x01\x01\x01\x01\x01\x01\x01\x01" +
		"\x00\x00\x00" +
		"\x02\x03\x01\x00\x04\x0c\x08\x10\x14\x18\x1c" +
		"\x02\x03\x01\x00\x04\x0c\x08\x10\x14\x18\x1c"
)

// breakBit is what the word of ebreak has besides that of ecall.
const breakBit = 1 << 20

// fixed is the word of an instruction whose fields are all 0.
func fixed(op int) uint32 {
	w := uint32(codes[op]) | uint32(threes[op])<<12
	switch {
	case op == api.Ebreak:
		return w | breakBit
	case forms[op] == 'A':
		return w | uint32(sevens[op])<<27
	}
	return w | uint32(sevens[op])<<25
}

// mask are the bits of a word that stand in no field.
func mask(op int) uint32 {
	switch forms[op] {
	case 'U', 'J':
		return 0x7f
	case 'I', 'B', 'S':
		return 0x707f
	case 'H':
		return 0xfc00707f
	case 'V', 'R':
		return 0xfe00707f
	case 'A':
		if reserves(op) {
			return 0xf9f0707f
		}
		return 0xf800707f
	}
	return 0xffffffff
}

// Encode is an instruction's word.
func Encode(x api.Inst) (uint32, api.Errno) {
	if !May(x) {
		return 0, api.ErrInst
	}
	w, i := fixed(x.Op), uint32(x.Imm)
	cut := func(high, low, to int) uint32 { return bits(i, high, low) << to }
	w |= uint32(x.Rd)<<7 | uint32(x.Rs1)<<15 | uint32(x.Rs2)<<20 // where there is no such field it is 0
	switch forms[x.Op] {
	case 'U':
		w |= cut(31, 12, 12)
	case 'J':
		w |= cut(20, 20, 31) | cut(10, 1, 21) | cut(11, 11, 20) | cut(19, 12, 12)
	case 'I':
		w |= cut(11, 0, 20)
	case 'B':
		w |= cut(12, 12, 31) | cut(10, 5, 25) | cut(4, 1, 8) | cut(11, 11, 7)
	case 'S':
		w |= cut(11, 5, 25) | cut(4, 0, 7)
	case 'H', 'V':
		w |= i << 20
	case 'A':
		w |= i << 25
	}
	return w, api.OK
}

// bits are those of w from high down to low.
func bits(w uint32, high, low int) uint32 {
	return w << (31 - high) >> (31 - high + low)
}

// span are the first and the last opcode that may have such lowest seven bits; 0, 0: none.
func span(code uint32) (int, int) {
	switch code {
	case 0x37:
		return api.Lui, api.Lui
	case 0x17:
		return api.Auipc, api.Auipc
	case 0x6f:
		return api.Jal, api.Jal
	case 0x67:
		return api.Jalr, api.Jalr
	case 0x63:
		return api.Beq, api.Bgeu
	case 0x03:
		return api.Lb, api.Lwu
	case 0x23:
		return api.Sb, api.Sd
	case 0x13:
		return api.Addi, api.Srai
	case 0x1b:
		return api.Addiw, api.Sraiw
	case 0x33, 0x3b:
		return api.Add, api.Remuw
	case 0x0f, 0x73:
		return api.Fence, api.Ebreak
	case 0x2f:
		return api.LrW, api.MaxuD
	}
	return 0, 0
}

// Decode is a word's instruction.
func Decode(w uint32) (api.Inst, api.Errno) {
	from, to := span(bits(w, 6, 0))
	for op := max(from, 1); op <= to; op++ {
		if w&mask(op) == fixed(op) {
			return fields(op, w), api.OK
		}
	}
	return api.Inst{}, api.ErrInst
}

// fields is the instruction of an opcode whose word w is.
func fields(op int, w uint32) api.Inst {
	rd, rs1, rs2 := int(bits(w, 11, 7)), int(bits(w, 19, 15)), int(bits(w, 24, 20))
	sign := -int64(bits(w, 31, 31))
	put := func(high, low, to int) int64 { return int64(bits(w, high, low)) << to }
	switch forms[op] {
	case 'U':
		return api.Inst{Op: op, Rd: rd, Imm: sign<<31 | put(30, 12, 12)}
	case 'J':
		return api.Inst{Op: op, Rd: rd, Imm: sign<<20 | put(30, 21, 1) | put(20, 20, 11) | put(19, 12, 12)}
	case 'I':
		return api.Inst{Op: op, Rd: rd, Rs1: rs1, Imm: sign<<11 | put(30, 20, 0)}
	case 'B':
		return api.Inst{Op: op, Rs1: rs1, Rs2: rs2, Imm: sign<<12 | put(30, 25, 5) | put(11, 8, 1) | put(7, 7, 11)}
	case 'S':
		return api.Inst{Op: op, Rs1: rs1, Rs2: rs2, Imm: sign<<11 | put(30, 25, 5) | put(11, 7, 0)}
	case 'H':
		return api.Inst{Op: op, Rd: rd, Rs1: rs1, Imm: put(25, 20, 0)}
	case 'V':
		return api.Inst{Op: op, Rd: rd, Rs1: rs1, Imm: put(24, 20, 0)}
	case 'R':
		return api.Inst{Op: op, Rd: rd, Rs1: rs1, Rs2: rs2}
	case 'A':
		return api.Inst{Op: op, Rd: rd, Rs1: rs1, Rs2: rs2, Imm: put(26, 25, 0)}
	}
	return api.Inst{Op: op}
}
