package dec

import (
	"sync"

	"slipway/api"
)

// prefix is the byte ahead of an instruction, in which registers above 7 have their bits.
type prefix struct {
	base, bitA, bitB byte
	// spare is true where the byte is left out as long as it has no bits.
	spare bool
}

// How registers stand behind the prefix.
const (
	// regsNone: the code alone.
	regsNone = iota
	// regsCode: A in the code itself.
	regsCode
	// regsExt: the code, and a byte with B.
	regsExt
	// regsBoth: the code, and a byte with A and B.
	regsBoth
	// regsBase: likewise, but that B leads into memory, and none of those that end like register 4 does.
	regsBase
	// regsNext: the code, and a byte with A alone.
	regsNext
	// regsFixed: the code, and a byte that tells no register.
	regsFixed
)

// What stands at an instruction's end.
const (
	tailNone = iota
	tailImm8
	tailImm4
	tailImm1
	tailSigned1
	tailDisp4
	tailDisp1
)

// form is one form of instructions.
type form struct {
	op, alu, cc int
	pre         prefix
	code        byte
	regs        int
	ext         byte
	tail        int
}

var (
	formsOnce sync.Once
	forms     []form
)

// all tells the forms there are, which are made at the first call.
func all() []form {
	formsOnce.Do(func() { forms = makeForms() })
	return forms
}

// makeForms lays the table of forms.
func makeForms() []form {
	none := prefix{}
	short := prefix{base: 0x40, bitA: 1, spare: true}
	long := prefix{base: 0x48, bitA: 4, bitB: 1}
	longA := prefix{base: 0x48, bitA: 4}
	inCode := prefix{base: 0x48, bitA: 1}
	longB := prefix{base: 0x48, bitB: 1}
	l := []form{
		{op: api.ONop, pre: none, code: 0x90},
		{op: api.ORet, pre: none, code: 0xC3},
		{op: api.OPush, pre: short, code: 0x50, regs: regsCode},
		{op: api.OPop, pre: short, code: 0x58, regs: regsCode},
		{op: api.OMovI, pre: inCode, code: 0xB8, regs: regsCode, tail: tailImm8},
		{op: api.OMovL, pre: short, code: 0xB8, regs: regsCode, tail: tailImm4},
		{op: api.OMov, pre: long, code: 0x89, regs: regsBoth, ext: 0xC0},
		{op: api.OLoad, pre: long, code: 0x8B, regs: regsBase, ext: 0x80, tail: tailDisp4},
		{op: api.OStore, pre: long, code: 0x89, regs: regsBase, ext: 0x80, tail: tailDisp4},
		{op: api.OLoadR, pre: longA, code: 0x8B, regs: regsNext, ext: 5, tail: tailDisp4},
		{op: api.OStoreR, pre: longA, code: 0x89, regs: regsNext, ext: 5, tail: tailDisp4},
		{op: api.OLea, pre: longA, code: 0x8D, regs: regsNext, ext: 5, tail: tailDisp4},
		{op: api.OAluI, alu: api.AAdd, pre: longB, code: 0x83, regs: regsExt, ext: 0xC0, tail: tailSigned1},
		{op: api.OAluI, alu: api.ASub, pre: longB, code: 0x83, regs: regsExt, ext: 0xE8, tail: tailSigned1},
		{op: api.OAluI, alu: api.ACmp, pre: longB, code: 0x83, regs: regsExt, ext: 0xF8, tail: tailSigned1},
		{op: api.OOne, alu: api.AInc, pre: longB, code: 0xFF, regs: regsExt, ext: 0xC0},
		{op: api.OOne, alu: api.ADec, pre: longB, code: 0xFF, regs: regsExt, ext: 0xC8},
		{op: api.OShift, alu: api.AShl, pre: longB, code: 0xC1, regs: regsExt, ext: 0xE0, tail: tailImm1},
		{op: api.OShift, alu: api.AShr, pre: longB, code: 0xC1, regs: regsExt, ext: 0xE8, tail: tailImm1},
		{op: api.OCall, pre: none, code: 0xE8, tail: tailDisp4},
		{op: api.OJmp, pre: none, code: 0xE9, tail: tailDisp4},
		{op: api.OJmpS, pre: none, code: 0xEB, tail: tailDisp1},
		{op: api.OCallR, pre: none, code: 0xFF, regs: regsFixed, ext: 0x15, tail: tailDisp4},
		{op: api.OJmpR, pre: none, code: 0xFF, regs: regsFixed, ext: 0x25, tail: tailDisp4},
		{op: api.OInt, pre: none, code: 0xCD, tail: tailImm1},
	}
	codes := []byte{0x01, 0x29, 0x21, 0x09, 0x31, 0x39, 0x85}
	for i, op := range []int{api.AAdd, api.ASub, api.AAnd, api.AOr, api.AXor, api.ACmp, api.ATest} {
		l = append(l, form{op: api.OAlu, alu: op, pre: long, code: codes[i], regs: regsBoth, ext: 0xC0})
	}
	for _, cc := range []int{api.CB, api.CNB, api.CE, api.CNE, api.CS, api.CNS, api.CL, api.CNL} {
		l = append(l, form{op: api.OJcc, cc: cc, code: 0x70 + byte(cc), tail: tailDisp1})
	}
	return l
}

// of finds the form that x would have; false, if there is none.
func of(x api.Ins) (form, bool) {
	for _, f := range all() {
		if f.op == x.Op && f.alu == x.Alu && f.cc == x.CC {
			return f, true
		}
	}
	return form{}, false
}

// hasA tells whether instructions of this form name A.
func (f *form) hasA() bool {
	return f.regs == regsCode || f.regs == regsBoth || f.regs == regsBase || f.regs == regsNext
}

// hasB tells whether they name B.
func (f *form) hasB() bool {
	return f.regs == regsExt || f.regs == regsBoth || f.regs == regsBase
}

// tailLen is how many bytes stand at the end.
func (f *form) tailLen() int {
	switch f.tail {
	case tailImm8:
		return 8
	case tailImm4, tailDisp4:
		return 4
	case tailImm1, tailSigned1, tailDisp1:
		return 1
	}
	return 0
}
