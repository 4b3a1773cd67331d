package dec

import (
	"sync"

	"slipway/api"
)

// prefix is the byte ahead of an instruction, in which registers above 7 have their bits.
type prefix struct {
	base, bitA, bitB byte
	// spare is true where the byte is left out as long as it has no bits.
	spare bool
}

// Which prefix a form has.
const (
	preNone = iota
	// preShort: needed for a high A alone.
	preShort
	// preLong: with bits of A and B.
	preLong
	// preLongA: with a bit of A alone.
	preLongA
	// preInCode: likewise, but that A stands in the code, and has the other bit.
	preInCode
	// preLongB: with a bit of B alone.
	preLongB
)

// prefix tells what the form's prefix is made of.
func (f *form) prefix() prefix {
	switch f.pre {
	case preShort:
		return prefix{base: 0x40, bitA: 1, spare: true}
	case preLong:
		return prefix{base: 0x48, bitA: 4, bitB: 1}
	case preLongA:
		return prefix{base: 0x48, bitA: 4}
	case preInCode:
		return prefix{base: 0x48, bitA: 1}
	case preLongB:
		return prefix{base: 0x48, bitB: 1}
	}
	return prefix{}
}

// How registers stand behind the prefix.
const (
	// regsNone: the code alone.
	regsNone = iota
	// regsCode: A in the code itself.
	regsCode
	// regsExt: the code, and a byte with B.
	regsExt
	// regsBoth: the code, and a byte with A and B.
	regsBoth
	// regsBase: likewise, but that B leads into memory, and none of those that end like register 4 does.
	regsBase
	// regsNext: the code, and a byte with A alone.
	regsNext
	// regsFixed: the code, and a byte that tells no register.
	regsFixed
)

// What stands at an instruction's end.
const (
	tailNone = iota
	tailImm8
	tailImm4
	tailImm1
	tailSigned1
	tailDisp4
	tailDisp1
)

// form is one form of instructions.
type form struct {
	op, alu, cc int
	pre         int
	code        byte
	regs        int
	ext         byte
	tail        int
}

// formCount is how many forms there are.
const formCount = 40

var (
	formsOnce sync.Once
	forms     []form
)

// all tells the forms there are, which are made at the first call.
func all() []form {
	formsOnce.Do(func() {
		l := makeForms()
		forms = l[:]
	})
	return forms
}

// makeForms lays the table of forms. It is a value of constants, so that a call which lays its own has little to do.
func makeForms() [formCount]form {
	return [formCount]form{
		{op: api.ONop, code: 0x90},
		{op: api.ORet, code: 0xC3},
		{op: api.OPush, pre: preShort, code: 0x50, regs: regsCode},
		{op: api.OPop, pre: preShort, code: 0x58, regs: regsCode},
		{op: api.OMovI, pre: preInCode, code: 0xB8, regs: regsCode, tail: tailImm8},
		{op: api.OMovL, pre: preShort, code: 0xB8, regs: regsCode, tail: tailImm4},
		{op: api.OAlu, alu: api.AAdd, pre: preLong, code: 0x01, regs: regsBoth, ext: 0xC0},
		{op: api.OAlu, alu: api.ASub, pre: preLong, code: 0x29, regs: regsBoth, ext: 0xC0},
		{op: api.OAlu, alu: api.AAnd, pre: preLong, code: 0x21, regs: regsBoth, ext: 0xC0},
		{op: api.OAlu, alu: api.AOr, pre: preLong, code: 0x09, regs: regsBoth, ext: 0xC0},
		{op: api.OAlu, alu: api.AXor, pre: preLong, code: 0x31, regs: regsBoth, ext: 0xC0},
		{op: api.OAlu, alu: api.ACmp, pre: preLong, code: 0x39, regs: regsBoth, ext: 0xC0},
		{op: api.OAlu, alu: api.ATest, pre: preLong, code: 0x85, regs: regsBoth, ext: 0xC0},
		{op: api.OMov, pre: preLong, code: 0x89, regs: regsBoth, ext: 0xC0},
		{op: api.OLoad, pre: preLong, code: 0x8B, regs: regsBase, ext: 0x80, tail: tailDisp4},
		{op: api.OStore, pre: preLong, code: 0x89, regs: regsBase, ext: 0x80, tail: tailDisp4},
		{op: api.OLoadR, pre: preLongA, code: 0x8B, regs: regsNext, ext: 0x05, tail: tailDisp4},
		{op: api.OStoreR, pre: preLongA, code: 0x89, regs: regsNext, ext: 0x05, tail: tailDisp4},
		{op: api.OLea, pre: preLongA, code: 0x8D, regs: regsNext, ext: 0x05, tail: tailDisp4},
		{op: api.OAluI, alu: api.AAdd, pre: preLongB, code: 0x83, regs: regsExt, ext: 0xC0, tail: tailSigned1},
		{op: api.OAluI, alu: api.ASub, pre: preLongB, code: 0x83, regs: regsExt, ext: 0xE8, tail: tailSigned1},
		{op: api.OAluI, alu: api.ACmp, pre: preLongB, code: 0x83, regs: regsExt, ext: 0xF8, tail: tailSigned1},
		{op: api.OOne, alu: api.AInc, pre: preLongB, code: 0xFF, regs: regsExt, ext: 0xC0},
		{op: api.OOne, alu: api.ADec, pre: preLongB, code: 0xFF, regs: regsExt, ext: 0xC8},
		{op: api.OShift, alu: api.AShl, pre: preLongB, code: 0xC1, regs: regsExt, ext: 0xE0, tail: tailImm1},
		{op: api.OShift, alu: api.AShr, pre: preLongB, code: 0xC1, regs: regsExt, ext: 0xE8, tail: tailImm1},
		{op: api.OCall, code: 0xE8, tail: tailDisp4},
		{op: api.OJmp, code: 0xE9, tail: tailDisp4},
		{op: api.OJmpS, code: 0xEB, tail: tailDisp1},
		{op: api.OJcc, cc: api.CB, code: 0x70 + api.CB, tail: tailDisp1},
		{op: api.OJcc, cc: api.CNB, code: 0x70 + api.CNB, tail: tailDisp1},
		{op: api.OJcc, cc: api.CE, code: 0x70 + api.CE, tail: tailDisp1},
		{op: api.OJcc, cc: api.CNE, code: 0x70 + api.CNE, tail: tailDisp1},
		{op: api.OJcc, cc: api.CS, code: 0x70 + api.CS, tail: tailDisp1},
		{op: api.OJcc, cc: api.CNS, code: 0x70 + api.CNS, tail: tailDisp1},
		{op: api.OJcc, cc: api.CL, code: 0x70 + api.CL, tail: tailDisp1},
		{op: api.OJcc, cc: api.CNL, code: 0x70 + api.CNL, tail: tailDisp1},
		{op: api.OCallR, code: 0xFF, regs: regsFixed, ext: 0x15, tail: tailDisp4},
		{op: api.OJmpR, code: 0xFF, regs: regsFixed, ext: 0x25, tail: tailDisp4},
		{op: api.OInt, code: 0xCD, tail: tailImm1},
	}
}

// hasA tells whether instructions of this form name A.
func (f *form) hasA() bool {
	return f.regs == regsCode || f.regs == regsBoth || f.regs == regsBase || f.regs == regsNext
}

// hasB tells whether they name B.
func (f *form) hasB() bool {
	return f.regs == regsExt || f.regs == regsBoth || f.regs == regsBase
}

// tailLen is how many bytes stand at the end.
func (f *form) tailLen() int {
	switch f.tail {
	case tailImm8:
		return 8
	case tailImm4, tailDisp4:
		return 4
	case tailImm1, tailSigned1, tailDisp1:
		return 1
	}
	return 0
}
