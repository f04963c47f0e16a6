package gen

import (
	"binnacle/api"
)

// The registers. Places are for what an expression is about to reckon with; a call may change them, and those of arguments. Kept ones are for variables; a call gives them back as they were.
const (
	zero     = 0
	back     = 1 // where a function goes back to
	stack    = 2
	global   = 3 // globalOff behind the data's beginning
	argWords = 4 // where the addresses of the program's arguments stand
	firstArg = 10
	argRegs  = 8
	callReg  = 17 // the number of a call of the kernel
)

const (
	wordBytes = 4 // of an instruction
	cell      = 8 // bytes of a number in memory
	globalOff = 2048
	nowhere   = -1
)

// place is the k-th register of an expression.
func place(k int) int {
	regs := [...]int{5, 6, 7, 28, 29, 30, 31}
	if k >= len(regs) {
		tooMany()
	}
	return regs[k]
}

// kept is the k-th register for variables; false, if there is none.
func kept(k int) (int, bool) {
	regs := [...]int{8, 9, 18, 19, 20, 21, 22, 23, 24, 25, 26, 27}
	if k >= len(regs) {
		return 0, false
	}
	return regs[k], true
}

// label is a place in the code that jumps go to; mends wait until it is known.
type label struct {
	known bool
	at    int
	mends []func(at int)
}

// Where a symbol's value stands.
const (
	unused  = iota // nobody asks for it
	inReg          // in a register
	inFrame        // so many bytes above the stack's end
	inData         // so many bytes behind the data's beginning
)

// home is where a symbol's value, or an array, is.
type home struct {
	kind, at int
}

// coder makes a tree's code.
type coder struct {
	tree  api.Source
	info  api.Info
	facts []fact
	code  []api.Inst
	late  []func(base int) // what waits until the data's beginning is known
	data  string
	end   int          // bytes of the data and the noughts behind
	texts map[int]int  // of each node of a text: where in the data it is
	homes map[int]home // of symbols
	funs  map[int]*label
	buf   int // where in the data the byte is that is printed or read
	count int // and the number of the program's arguments
	put   *label
	get   *label
	fun   *function
}

// fact is what is known of a node.
type fact struct {
	isConst bool
	value   int64
	calls   bool // it changes the registers of arguments
	deep    bool // and places: a function of the program is called
	uses    int  // of a variable's node: how often it is named
	guarded bool // it is a part of a statement that may be left out
}

// emit puts instructions behind the code.
func (c *coder) emit(rows ...api.Inst) {
	c.code = append(c.code, rows...)
}

// here lets a label be behind the code.
func (c *coder) here(l *label) {
	l.known, l.at = true, len(c.code)
	for _, mend := range l.mends {
		mend(l.at)
	}
}

// jump emits a jump or branch to a label.
func (c *coder) jump(x api.Inst, to *label) {
	i := len(c.code)
	c.emit(x)
	mend := func(at int) { c.code[i].Imm = int64(wordBytes * (at - i)) }
	if to.known {
		mend(to.at)
		return
	}
	to.mends = append(to.mends, mend)
}

func (c *coder) goTo(to *label) {
	c.jump(api.Inst{Op: api.Jal}, to)
}

// reg, imm, load and store are instructions of these forms.
func reg(op, rd, a, b int) api.Inst {
	return api.Inst{Op: op, Rd: rd, Rs1: a, Rs2: b}
}

func imm(op, rd, a int, n int64) api.Inst {
	return api.Inst{Op: op, Rd: rd, Rs1: a, Imm: n}
}

func load(op, rd, at int, off int) api.Inst {
	return imm(op, rd, at, int64(off))
}

func store(op, v, at int, off int) api.Inst {
	return api.Inst{Op: op, Rs1: at, Rs2: v, Imm: int64(off)}
}

// move gives a register another one's value.
func (c *coder) move(rd, from int) {
	if rd != from {
		c.emit(imm(api.Addi, rd, from, 0))
	}
}

// fits tells whether a number may be an instruction's.
func fits(n int64) bool {
	return n >= -2048 && n < 2048
}

// split are the parts of a number that Lui and a number behind it give.
func split(n int64) (int64, int64) {
	low := n << 52 >> 52
	return n - low, low
}

// number gives a register a number.
func (c *coder) number(rd int, n int64) {
	high, low := split(n)
	switch {
	case high == 0:
		c.emit(imm(api.Addi, rd, zero, low))
	case int64(int32(n)) == n:
		c.emit(api.Inst{Op: api.Lui, Rd: rd, Imm: int64(int32(high))})
		if low != 0 {
			c.emit(imm(api.Addiw, rd, rd, low))
		}
	default:
		shift := int64(12)
		for high>>shift&1 == 0 {
			shift++
		}
		c.number(rd, high>>shift)
		c.emit(imm(api.Slli, rd, rd, shift))
		if low != 0 {
			c.emit(imm(api.Addi, rd, rd, low))
		}
	}
}

// near tells whether what stands so far behind the data's beginning can be reached from the global register.
func near(off int) bool {
	return fits(int64(off - globalOff))
}

// far emits Lui and an instruction that together have the address off bytes behind the data's beginning.
func (c *coder) far(off, rd int, x api.Inst) {
	i := len(c.code)
	c.emit(api.Inst{Op: api.Lui, Rd: rd}, x)
	c.late = append(c.late, func(base int) {
		c.code[i].Imm, c.code[i+1].Imm = split(int64(base + off))
	})
}

// address gives a register the address of what stands in the data.
func (c *coder) address(rd, off int) {
	if near(off) {
		c.emit(imm(api.Addi, rd, global, int64(off-globalOff)))
		return
	}
	c.far(off, rd, imm(api.Addi, rd, rd, 0))
}
