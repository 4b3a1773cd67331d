package dec

import (
	"slipway/api"
	"slipway/le"
)

// How bytes fit a form.
const (
	fitNone = iota
	// fitShort: they are the beginning of one.
	fitShort
	fitWhole
)

// Decode tells the instruction that b begins with, and how many bytes it has.
func Decode(b []byte) (api.Ins, int, api.Errno) {
	e := api.ErrOp
	l := makeForms()
	for i := range l {
		x, n, fit := l[i].read(b)
		switch fit {
		case fitWhole:
			return x, n, api.OK
		case fitShort:
			e = api.ErrShort
		}
	}
	return api.Ins{}, 0, e
}

// read reads an instruction of this form.
func (f *form) read(b []byte) (api.Ins, int, int) {
	x := api.Ins{Op: f.op, Alu: f.alu, CC: f.cc}
	at, fit := f.prefix().read(b, &x)
	if fit != fitWhole {
		return api.Ins{}, 0, fit
	}
	n, fit := f.readCode(b[at:], &x)
	if fit != fitWhole {
		return api.Ins{}, 0, fit
	}
	at += n
	n = f.tailLen()
	if len(b)-at < n {
		return api.Ins{}, 0, fitShort
	}
	f.readTail(b[at:at+n], &x)
	return x, at + n, fitWhole
}

// read reads the prefix, with the highest bits of registers.
func (p prefix) read(b []byte, x *api.Ins) (int, int) {
	if p.base == 0 {
		return 0, fitWhole
	}
	if len(b) == 0 {
		return 0, fitShort
	}
	v := b[0]
	bits := p.bitA | p.bitB
	if v&^bits != p.base || p.spare && v == p.base {
		if p.spare {
			return 0, fitWhole
		}
		return 0, fitNone
	}
	if v&p.bitA != 0 {
		x.A = lowBits + 1
	}
	if v&p.bitB != 0 {
		x.B = lowBits + 1
	}
	return 1, fitWhole
}

// readCode reads the code and the byte behind it, with the lowest bits of registers.
func (f *form) readCode(b []byte, x *api.Ins) (int, int) {
	if len(b) == 0 {
		return 0, fitShort
	}
	if f.regs == regsCode {
		if b[0]&^lowBits != f.code {
			return 0, fitNone
		}
		x.A += int(b[0] & lowBits)
		return 1, fitWhole
	}
	if b[0] != f.code {
		return 0, fitNone
	}
	if f.regs == regsNone {
		return 1, fitWhole
	}
	if len(b) == 1 {
		return 0, fitShort
	}
	if !f.readRegs(b[1], x) {
		return 0, fitNone
	}
	return 2, fitWhole
}

// readRegs reads the byte that tells registers.
func (f *form) readRegs(v byte, x *api.Ins) bool {
	if f.hasA() {
		x.A += int(v >> 3 & lowBits)
		v &^= lowBits << 3
	}
	if f.hasB() {
		x.B += int(v & lowBits)
		v &^= lowBits
	}
	return v == f.ext && !(f.regs == regsBase && x.B&lowBits == noBase)
}

// readTail reads the number at the end.
func (f *form) readTail(b []byte, x *api.Ins) {
	switch f.tail {
	case tailImm8:
		x.Imm, _ = le.U64(b, 0)
	case tailImm4:
		v, _ := le.U32(b, 0)
		x.Imm = uint64(v)
	case tailImm1:
		x.Imm = uint64(b[0])
	case tailSigned1:
		x.Imm = signed(b[0])
	case tailDisp4:
		v, _ := le.U32(b, 0)
		x.Disp = int(int32(uint32(v)))
	case tailDisp1:
		x.Disp = int(int8(b[0]))
	}
}
