package asm_test

import (
	"bytes"
	"math"
	"strings"
	"testing"

	"slipway/api"
	"slipway/asm"
	"slipway/dec"
)

// lines are texts with what they tell.
var lines = map[string]api.Ins{
	"nop": {Op: api.ONop}, "ret": {Op: api.ORet}, "push 0": {Op: api.OPush}, "push 15": {Op: api.OPush, A: 15}, "pop 9": {Op: api.OPop, A: 9},
	"movi 3 18446744073709551615": {Op: api.OMovI, A: 3, Imm: math.MaxUint64}, "movi 0 0": {Op: api.OMovI}, "movl 8 4294967295": {Op: api.OMovL, A: 8, Imm: math.MaxUint32},
	"add 1 2": {Op: api.OAlu, Alu: api.AAdd, B: 1, A: 2}, "sub 1 2": {Op: api.OAlu, Alu: api.ASub, B: 1, A: 2}, "and 1 2": {Op: api.OAlu, Alu: api.AAnd, B: 1, A: 2}, "or 1 2": {Op: api.OAlu, Alu: api.AOr, B: 1, A: 2},
	"xor 15 0": {Op: api.OAlu, Alu: api.AXor, B: 15}, "cmp 1 2": {Op: api.OAlu, Alu: api.ACmp, B: 1, A: 2}, "test 0 15": {Op: api.OAlu, Alu: api.ATest, A: 15}, "mov 7 10": {Op: api.OMov, B: 7, A: 10},
	"load 4 5 -2147483648": {Op: api.OLoad, A: 4, B: 5, Disp: math.MinInt32}, "store 12 0 2147483647": {Op: api.OStore, A: 12, Disp: math.MaxInt32}, "load 0 0 0": {Op: api.OLoad},
	"loadr 1 16": {Op: api.OLoadR, A: 1, Disp: 16}, "storer 1 -16": {Op: api.OStoreR, A: 1, Disp: -16}, "lea 14 -1": {Op: api.OLea, A: 14, Disp: -1},
	"addi 2 127": {Op: api.OAluI, Alu: api.AAdd, B: 2, Imm: 127}, "subi 2 -128": {Op: api.OAluI, Alu: api.ASub, B: 2, Imm: math.MaxUint64 - 127}, "cmpi 11 -1": {Op: api.OAluI, Alu: api.ACmp, B: 11, Imm: math.MaxUint64}, "addi 0 0": {Op: api.OAluI},
	"inc 1": {Op: api.OOne, Alu: api.AInc, B: 1}, "dec 13": {Op: api.OOne, Alu: api.ADec, B: 13}, "shl 1 255": {Op: api.OShift, Alu: api.AShl, B: 1, Imm: 255}, "shr 8 0": {Op: api.OShift, Alu: api.AShr, B: 8},
	"call -5": {Op: api.OCall, Disp: -5}, "jmp 2147483647": {Op: api.OJmp, Disp: math.MaxInt32}, "jmps -128": {Op: api.OJmpS, Disp: -128}, "jmps 127": {Op: api.OJmpS, Disp: 127},
	"jb 1": {Op: api.OJcc, CC: api.CB, Disp: 1}, "jnb 1": {Op: api.OJcc, CC: api.CNB, Disp: 1}, "je 1": {Op: api.OJcc, CC: api.CE, Disp: 1}, "jne 1": {Op: api.OJcc, CC: api.CNE, Disp: 1},
	"js 1": {Op: api.OJcc, CC: api.CS, Disp: 1}, "jns 1": {Op: api.OJcc, CC: api.CNS, Disp: 1}, "jl 1": {Op: api.OJcc, CC: api.CL, Disp: 1}, "jnl -1": {Op: api.OJcc, CC: api.CNL, Disp: -1},
	"callr 100": {Op: api.OCallR, Disp: 100}, "jmpr -100": {Op: api.OJmpR, Disp: -100}, "int 0": {Op: api.OInt}, "int 255": {Op: api.OInt, Imm: 255},
}

func TestLinesThereAndBack(t *testing.T) {
	for s, want := range lines {
		x, e := asm.Line(s)
		if e != api.OK || x != want {
			t.Errorf("%q: %+v %v", s, x, e)
		}
		if back, ok := asm.Text(want); !ok || back != s {
			t.Errorf("%q: back %q %v", s, back, ok)
		}
	}
}

func TestLineRefuses(t *testing.T) {
	bad := []string{
		"", " ", "\n", "x", "NOP", "Ret", "retx", "nop 0", "ret 1", "push", "push 16", "push -1", "push x", "push 1 2", "push 1x", "push 18446744073709551616", "push 4294967296", "pop 99",
		"movi 1", "movi 1 18446744073709551616", "movi 1 -1", "movi 1 01", "movi 1 00", "jmp 05", "jmp -05", "load 1 2 03", "cmpi 1 09", "movi 16 1", "movi 1 0x10", "movi 1 1_0", "movi 1 1 1", "movl 1 4294967296", "movl 1 -1", "add 1", "add 1 16", "add 1 2 3", "addi 1 128", "addi 1 -129", "addi 1 255", "addi 1 -0", "addi 1 +1",
		"addi 1 18446744073709551615", "addi 1 18446744073709551488", "subi 1 -18446744073709551615", "cmpi 1 --1", "cmpi 1 -", "cmpi 1 -01", "andi 1 1", "load 1 4 0", "load 1 12 0", "store 0 4 8", "load 1 2", "load 1 2 2147483648", "load 1 2 -2147483649", "store 1 2 -0", "store 1 2 3 4",
		"loadr 1", "loadr 16 1", "lea 1 2147483648", "lea 1 00", "inc", "inc 16", "dec 1 1", "shl 1 256", "shl 1 -1", "shr 1", "shr 1 01", "sar 1 1", "call", "call x", "call 2147483648", "call -2147483649", "call 18446744073709551615", "jmp -0", "jmps 128", "jmps -129", "je 128", "je -129", "jb", "ja 1", "jo 1", "jcc 1",
		"callr -2147483649", "jmpr 1 1", "int 256", "int -1", "int 00", "int", "int 99999999999999999999",
	}
	for s := range lines {
		bad = append(bad, " "+s, s+" ", s+"\n", s+"\t", s+" 1", strings.Replace(s, " ", "  ", 1)+" ", strings.ToUpper(s))
		if at := strings.LastIndexByte(s, ' '); at >= 0 {
			bad = append(bad, s[:at], s[:at]+" ", s[:at]+" "+s[at:], s[:at]+" x", s+".0", strings.ReplaceAll(s, " ", ","), strings.ReplaceAll(s, " ", "\t"), strings.Replace(s, " ", "  ", 1))
		}
	}
	for _, s := range bad {
		if x, e := asm.Line(s); e != api.ErrText || x != (api.Ins{}) {
			t.Errorf("%q: %+v %v", s, x, e)
		}
	}
}

func TestTextRefuses(t *testing.T) {
	for _, x := range []api.Ins{{}, {Op: 24}, {Op: -1}, {Op: api.OPush, A: 16}, {Op: api.ONop, Imm: 1}, {Op: api.OLoad, B: 4}, {Op: api.OAluI, Alu: api.AAnd}, {Op: api.OJcc, CC: 6}, {Op: api.OAluI, Imm: 128}, {Op: api.OJmpS, Disp: 128}, {Op: math.MaxInt}} {
		if s, ok := asm.Text(x); ok || s != "" {
			t.Errorf("%+v: %q", x, s)
		}
	}
}

func TestWhatIsToldIsRead(t *testing.T) {
	n := 0
	imms := []uint64{0, 1, 127, 128, 255, 256, math.MaxUint32, 1 << 32, 1 << 63, math.MaxUint64, math.MaxUint64 - 127, math.MaxUint64 - 128}
	disps := []int{0, 1, -1, 127, 128, -128, -129, math.MaxInt32, math.MinInt32, math.MaxInt32 + 1, math.MinInt32 - 1}
	for op := range 25 {
		for alu := range 11 {
			for cc := range 15 {
				for _, regs := range [][2]int{{0, 0}, {3, 0}, {0, 9}, {15, 13}, {4, 4}} {
					for _, imm := range imms {
						for _, d := range disps {
							x := api.Ins{Op: op, Alu: alu, CC: cc, A: regs[0], B: regs[1], Imm: imm, Disp: d}
							if !dec.Ok(x) {
								continue
							}
							n++
							s, ok := asm.Text(x)
							if y, e := asm.Line(s); !ok || e != api.OK || y != x {
								t.Fatalf("%+v: %q %+v %v", x, s, y, e)
							}
						}
					}
				}
			}
		}
	}
	if n < 100 {
		t.Error("few instructions", n)
	}
}

func TestAll(t *testing.T) {
	b, n, e := asm.All("movl 0 7\n\n\nadd 0 1\nret\n")
	if e != api.OK || n != 3 || !bytes.Equal(b, []byte{0xB8, 7, 0, 0, 0, 0x48, 0x01, 0xC8, 0xC3}) {
		t.Errorf("%x %d %v", b, n, e)
	}
	for _, text := range []string{"", "\n", "\n\n\n"} {
		if b, n, e := asm.All(text); e != api.OK || n != 0 || len(b) != 0 {
			t.Errorf("%q %x %d %v", text, b, n, e)
		}
	}
	if b, n, e := asm.All("ret"); e != api.OK || n != 1 || !bytes.Equal(b, []byte{0xC3}) {
		t.Error(b, n, e)
	}
	for text, want := range map[string]int{"x": 0, "ret\nx": 1, "ret\n\nnop\n ret\nret": 2, "ret\n ": 1, "ret\r\n": 0, "nop\nret;nop": 1, "push 16\nret": 0, "ret\n\t\nret": 1} {
		if b, n, e := asm.All(text); e != api.ErrText || n != want || b != nil {
			t.Errorf("%q %x %d %v", text, b, n, e)
		}
	}
	var all []string
	var want []byte
	for s, x := range lines {
		c, _ := dec.Encode(x)
		all, want = append(all, s), append(want, c...)
	}
	if b, n, e := asm.All(strings.Join(all, "\n")); e != api.OK || n != len(lines) || !bytes.Equal(b, want) {
		t.Error(n, e)
	}
}
