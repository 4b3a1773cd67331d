package dec_test

import (
	"bytes"
	"math"
	"testing"

	"slipway/api"
	"slipway/dec"
)

// row is an instruction and the bytes ahead of its number, with how long that is.
type row struct {
	x    api.Ins
	b    []byte
	tail int
	// what the number is: 'n' an Imm, 's' a signed Imm, 'd' a Disp.
	kind byte
}

// rexR is the document's R.
func rexR(a, b int) byte { return byte(0x48 + a/8*4 + b/8) }

// shortP is its P.
func shortP(a int) []byte {
	if a > 7 {
		return []byte{0x41}
	}
	return nil
}

// rows are all instructions but for their numbers, by the document's table.
func rows() []row {
	var l []row
	add := func(x api.Ins, tail int, kind byte, b ...byte) { l = append(l, row{x, b, tail, kind}) }
	add(api.Ins{Op: api.ONop}, 0, 0, 0x90)
	add(api.Ins{Op: api.ORet}, 0, 0, 0xC3)
	add(api.Ins{Op: api.OCall}, 4, 'd', 0xE8)
	add(api.Ins{Op: api.OJmp}, 4, 'd', 0xE9)
	add(api.Ins{Op: api.OJmpS}, 1, 'd', 0xEB)
	add(api.Ins{Op: api.OCallR}, 4, 'd', 0xFF, 0x15)
	add(api.Ins{Op: api.OJmpR}, 4, 'd', 0xFF, 0x25)
	add(api.Ins{Op: api.OInt}, 1, 'n', 0xCD)
	for _, cc := range []int{2, 3, 4, 5, 8, 9, 12, 13} {
		add(api.Ins{Op: api.OJcc, CC: cc}, 1, 'd', byte(0x70+cc))
	}
	alus := map[int]byte{api.AAdd: 0x01, api.ASub: 0x29, api.AAnd: 0x21, api.AOr: 0x09, api.AXor: 0x31, api.ACmp: 0x39, api.ATest: 0x85}
	for a := range 16 {
		add(api.Ins{Op: api.OPush, A: a}, 0, 0, append(shortP(a), byte(0x50+a%8))...)
		add(api.Ins{Op: api.OPop, A: a}, 0, 0, append(shortP(a), byte(0x58+a%8))...)
		add(api.Ins{Op: api.OMovI, A: a}, 8, 'n', byte(0x48+a/8), byte(0xB8+a%8))
		add(api.Ins{Op: api.OMovL, A: a}, 4, 'n', append(shortP(a), byte(0xB8+a%8))...)
		add(api.Ins{Op: api.OLoadR, A: a}, 4, 'd', byte(0x48+a/8*4), 0x8B, byte(a%8*8+5))
		add(api.Ins{Op: api.OStoreR, A: a}, 4, 'd', byte(0x48+a/8*4), 0x89, byte(a%8*8+5))
		add(api.Ins{Op: api.OLea, A: a}, 4, 'd', byte(0x48+a/8*4), 0x8D, byte(a%8*8+5))
		for op, c := range map[int]byte{api.AAdd: 0xC0, api.ASub: 0xE8, api.ACmp: 0xF8} {
			add(api.Ins{Op: api.OAluI, B: a, Alu: op}, 1, 's', byte(0x48+a/8), 0x83, c+byte(a%8))
		}
		for op, c := range map[int]byte{api.AInc: 0xC0, api.ADec: 0xC8} {
			add(api.Ins{Op: api.OOne, B: a, Alu: op}, 0, 0, byte(0x48+a/8), 0xFF, c+byte(a%8))
		}
		for op, c := range map[int]byte{api.AShl: 0xE0, api.AShr: 0xE8} {
			add(api.Ins{Op: api.OShift, B: a, Alu: op}, 1, 'n', byte(0x48+a/8), 0xC1, c+byte(a%8))
		}
		for b := range 16 {
			for op, c := range alus {
				add(api.Ins{Op: api.OAlu, A: a, B: b, Alu: op}, 0, 0, rexR(a, b), c, byte(0xC0+a%8*8+b%8))
			}
			add(api.Ins{Op: api.OMov, A: a, B: b}, 0, 0, rexR(a, b), 0x89, byte(0xC0+a%8*8+b%8))
			if b%8 != 4 {
				add(api.Ins{Op: api.OLoad, A: a, B: b}, 4, 'd', rexR(a, b), 0x8B, byte(0x80+a%8*8+b%8))
				add(api.Ins{Op: api.OStore, A: a, B: b}, 4, 'd', rexR(a, b), 0x89, byte(0x80+a%8*8+b%8))
			}
		}
	}
	return l
}

// numbers are edges of a row's number, as the field tells it.
func numbers(r row) []uint64 {
	switch {
	case r.tail == 8:
		return []uint64{0, 1, 0x1122334455667788, 1 << 63, math.MaxUint64}
	case r.tail == 4 && r.kind == 'n':
		return []uint64{0, 1, 0x11223344, 1 << 31, math.MaxUint32}
	case r.tail == 4:
		return []uint64{0, 1, 0x11223344, math.MaxInt32, minus(1), minus(0x11223344), minus(1 << 31)}
	case r.tail == 1 && r.kind == 'n':
		return []uint64{0, 1, 127, 128, 255}
	case r.tail == 1:
		return []uint64{0, 1, 127, minus(1), minus(128)}
	}
	return []uint64{0}
}

func minus(v int64) uint64 { return uint64(-v) }

// with is r's instruction and its bytes, with the number v.
func with(r row, v uint64) (api.Ins, []byte) {
	x := r.x
	if r.kind == 'd' {
		x.Disp = int(v)
	} else {
		x.Imm = v
	}
	b := bytes.Clone(r.b)
	for i := range r.tail {
		b = append(b, byte(v>>(8*i)))
	}
	return x, b
}

func TestWhatIsEncodedIsDecoded(t *testing.T) {
	for _, r := range rows() {
		for _, v := range numbers(r) {
			x, b := with(r, v)
			got, ok := dec.Encode(x)
			if !dec.Ok(x) || !ok || !bytes.Equal(got, b) {
				t.Fatalf("Encode(%+v) = %x, %v, not %x", x, got, ok, b)
			}
			for _, more := range [][]byte{nil, {0}, {0x48, 0x90, 0xC3}, bytes.Repeat([]byte{0xFF}, 20)} {
				y, n, e := dec.Decode(append(bytes.Clone(b), more...))
				if e != api.OK || n != len(b) || y != x {
					t.Fatalf("Decode(%x) = %+v, %d, %v, not %+v", b, y, n, e, x)
				}
			}
			for n := range b {
				if y, k, e := dec.Decode(b[:n]); e != api.ErrShort || k != 0 || y != (api.Ins{}) {
					t.Fatalf("Decode(%x) = %+v, %d, %v", b[:n], y, k, e)
				}
			}
		}
	}
}

func TestExamples(t *testing.T) {
	if x, n, e := dec.Decode([]byte{0x48, 0x01, 0xC8}); e != api.OK || n != 3 || x != (api.Ins{Op: api.OAlu, Alu: api.AAdd, A: 1}) {
		t.Error(x, n, e)
	}
	if _, _, e := dec.Decode(nil); e != api.ErrShort {
		t.Error("nothing is the beginning of all", e)
	}
}

// TestNoOtherForms asks each beginning of up to three bytes: it is whole, short, or none, by the table.
func TestNoOtherForms(t *testing.T) {
	const short, fixed = 1, 2
	known := map[string]int{"": short}
	for _, r := range rows() {
		for n := 1; n < len(r.b); n++ {
			known[string(r.b[:n])] = short
		}
		known[string(r.b)] = fixed
		if r.tail == 0 {
			known[string(r.b)] = fixed + 1
		}
	}
	ask := func(b []byte) {
		want, size := api.ErrOp, 0
		for n := 0; n <= len(b); n++ {
			switch k := known[string(b[:n])]; {
			case k == fixed+1:
				want, size = api.OK, n
			case k == fixed && n == len(b), k == short && n == len(b):
				want = api.ErrShort
			case k == fixed:
				// Its number has begun: what is behind it is no form's to say.
				return
			}
			if size > 0 {
				break
			}
		}
		if x, n, e := dec.Decode(b); e != want || n != size || e != api.OK && x != (api.Ins{}) {
			t.Fatalf("Decode(%x) = %+v, %d, %v, not %v, %d", b, x, n, e, want, size)
		}
	}
	for i := range 256 {
		ask([]byte{byte(i)})
		for k := range 256 {
			ask([]byte{byte(i), byte(k)})
			if i < 0x40 || i > 0x4F {
				continue
			}
			for m := range 256 {
				ask([]byte{byte(i), byte(k), byte(m)})
			}
		}
	}
}

func TestDecodeOfLongOnesWithWrongBytes(t *testing.T) {
	for _, b := range [][]byte{
		{0x40, 0x50}, {0x42, 0x50}, {0x41, 0x90}, {0x41, 0xC3}, {0x49, 0xB9, 1}, {0x4A, 0xB8, 1, 2, 3, 4, 5, 6, 7, 8}, {0x4C, 0xB8, 1, 2, 3, 4, 5, 6, 7, 8}, {0x49, 0x8B, 5, 0, 0, 0, 0}, {0x4D, 0x8D, 5, 0, 0, 0, 0},
		{0x4C, 0x83, 0xC0, 1}, {0x4C, 0xFF, 0xC0}, {0x4C, 0xC1, 0xE0, 1}, {0x48, 0x8B, 0x84, 0x24, 0, 0, 0, 0}, {0x49, 0x8B, 0x84, 0x24, 0, 0, 0, 0}, {0x48, 0x8B, 0x40, 1}, {0x48, 0x83, 0xC8, 1}, {0x48, 0x8B, 0xC0},
		{0x01, 0xC8}, {0x0F, 0x84, 0, 0, 0, 0}, {0x70, 0}, {0x71, 0}, {0x76, 0}, {0x7A, 0}, {0x7E, 0}, {0x7F, 0}, {0xFF, 0x10}, {0xCC}, {0xC2, 0, 0}, {0x48, 0x48, 0x01, 0xC8}, {0xC1, 0xE0, 1}, {0x48, 0xC1, 0xF8, 1},
	} {
		x, n, e := dec.Decode(b)
		want := api.ErrOp
		if len(b) == 3 && b[0] == 0x49 && b[1] == 0xB9 {
			want = api.ErrShort
		}
		if e != want || n != 0 || x != (api.Ins{}) {
			t.Errorf("%x: %+v %d %v", b, x, n, e)
		}
	}
}

func TestOkRefuses(t *testing.T) {
	big := []int{-1, 16, 256, math.MinInt, math.MaxInt}
	for _, r := range rows() {
		x, _ := with(r, numbers(r)[len(numbers(r))-1])
		for _, v := range big {
			for i, y := range []api.Ins{set(x, func(y *api.Ins) { y.A = v }), set(x, func(y *api.Ins) { y.B = v }), set(x, func(y *api.Ins) { y.CC = v }), set(x, func(y *api.Ins) { y.Alu = v })} {
				refused(t, i, y)
			}
		}
	}
	for _, x := range []api.Ins{
		{}, {Op: -1}, {Op: 24}, {Op: math.MaxInt}, {Op: api.ONop, A: 1}, {Op: api.ONop, B: 1}, {Op: api.ONop, Imm: 1}, {Op: api.ONop, Disp: 1}, {Op: api.ONop, CC: 2}, {Op: api.ONop, Alu: 1}, {Op: api.ORet, Imm: 8},
		{Op: api.OPush, B: 1}, {Op: api.OPush, Imm: 1}, {Op: api.OPop, Disp: 1}, {Op: api.OMovI, Disp: 1}, {Op: api.OMovI, B: 3}, {Op: api.OMovL, Imm: 1 << 32}, {Op: api.OMovL, Imm: math.MaxUint64},
		{Op: api.OAlu, Alu: api.AInc}, {Op: api.OAlu, Alu: api.ADec}, {Op: api.OAlu, Alu: api.AShl}, {Op: api.OAlu, Alu: api.AShr}, {Op: api.OAlu, Imm: 1}, {Op: api.OAlu, CC: 4}, {Op: api.OMov, Alu: 1}, {Op: api.OMov, Disp: 4},
		{Op: api.OLoad, B: 4}, {Op: api.OLoad, B: 12}, {Op: api.OStore, B: 4}, {Op: api.OStore, B: 12}, {Op: api.OLoad, Disp: 1 << 31}, {Op: api.OLoad, Disp: -1<<31 - 1}, {Op: api.OStore, Imm: 1}, {Op: api.OLoadR, B: 1}, {Op: api.OLea, Disp: math.MaxInt}, {Op: api.OStoreR, Disp: math.MinInt},
		{Op: api.OAluI, Alu: api.AAnd}, {Op: api.OAluI, Alu: api.ATest}, {Op: api.OAluI, A: 1}, {Op: api.OAluI, Imm: 128}, {Op: api.OAluI, Imm: 255}, {Op: api.OAluI, Imm: minus(129)}, {Op: api.OAluI, Imm: 1 << 63}, {Op: api.OAluI, Disp: 1},
		{Op: api.OOne, Alu: api.AAdd}, {Op: api.OOne}, {Op: api.OOne, Alu: api.AInc, Imm: 1}, {Op: api.OShift, Alu: api.AAdd}, {Op: api.OShift}, {Op: api.OShift, Alu: api.AShl, Imm: 256}, {Op: api.OShift, Alu: api.AShl, Imm: math.MaxUint64}, {Op: api.OShift, Alu: api.AShr, A: 2},
		{Op: api.OCall, Disp: 1 << 31}, {Op: api.OCall, Imm: 1}, {Op: api.OJmp, Disp: -1<<31 - 1}, {Op: api.OJmpS, Disp: 128}, {Op: api.OJmpS, Disp: -129}, {Op: api.OJcc}, {Op: api.OJcc, CC: 1}, {Op: api.OJcc, CC: 6}, {Op: api.OJcc, CC: 7}, {Op: api.OJcc, CC: 10}, {Op: api.OJcc, CC: 11}, {Op: api.OJcc, CC: 14},
		{Op: api.OJcc, CC: 4, Disp: 128}, {Op: api.OJcc, CC: 4, Alu: 1}, {Op: api.OCallR, Disp: 1 << 31}, {Op: api.OJmpR, A: 1}, {Op: api.OInt, Imm: 256}, {Op: api.OInt, Disp: 1}, {Op: api.OInt, A: 1},
	} {
		refused(t, 99, x)
	}
}

func set(x api.Ins, change func(x *api.Ins)) api.Ins {
	change(&x)
	return x
}

func refused(t *testing.T, i int, x api.Ins) {
	t.Helper()
	if b, ok := dec.Encode(x); dec.Ok(x) || ok || b != nil {
		t.Errorf("%d: %+v: %x", i, x, b)
	}
}

func TestAnswersAreApart(t *testing.T) {
	a, _ := dec.Encode(api.Ins{Op: api.ORet})
	a[0] = 0
	if b, _ := dec.Encode(api.Ins{Op: api.ORet}); b[0] != 0xC3 {
		t.Error(b)
	}
}

// TestOkAndEncodeAreOfOneMind asks instructions that are and that are none, field by field.
func TestOkAndEncodeAreOfOneMind(t *testing.T) {
	regs := []int{-1, 0, 4, 7, 8, 12, 15, 16}
	imms := []uint64{0, 127, 128, 255, 256, math.MaxUint32, 1 << 32, minus(128), minus(129), minus(1)}
	disps := []int{0, 127, 128, -128, -129, math.MaxInt32, math.MaxInt32 + 1, math.MinInt32, math.MinInt32 - 1}
	for op := -1; op <= api.OInt+1; op++ {
		for alu := -1; alu <= api.AShr+1; alu++ {
			for cc := -1; cc <= api.CNL+1; cc++ {
				for _, a := range regs {
					for _, b := range regs {
						for _, v := range imms {
							ofOneMind(t, api.Ins{Op: op, A: a, B: b, Alu: alu, CC: cc, Imm: v})
						}
						for _, v := range disps {
							ofOneMind(t, api.Ins{Op: op, A: a, B: b, Alu: alu, CC: cc, Disp: v})
						}
					}
				}
			}
		}
	}
}

// ofOneMind holds Ok against Encode, and what is encoded against Decode.
func ofOneMind(t *testing.T, x api.Ins) {
	t.Helper()
	b, ok := dec.Encode(x)
	if dec.Ok(x) != ok || ok != (len(b) > 0) {
		t.Fatalf("%+v: Ok %v, Encode %x, %v", x, dec.Ok(x), b, ok)
	}
	if !ok {
		return
	}
	if y, n, e := dec.Decode(b); y != x || n != len(b) || e != api.OK {
		t.Fatalf("%+v: %x is %+v, %d, %v", x, b, y, n, e)
	}
}
