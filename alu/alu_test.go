package alu_test

import (
	"math"
	"math/big"
	"testing"

	"slipway/alu"
	"slipway/api"
)

// edges are numbers at which something goes beyond.
var edges = []uint64{0, 1, 2, 3, 7, 63, 64, 65, 127, 1<<31 - 1, 1 << 31, 1 << 32, 1<<62 - 1, 1 << 62, 1<<63 - 1, 1 << 63, 1<<63 + 1, math.MaxUint64 - 1, math.MaxUint64, 0x123456789ABCDEF0, 0xFEDCBA9876543210}

// flags are all that there are.
func flags() []api.Flags {
	var l []api.Flags
	for i := range 16 {
		l = append(l, api.Flags{Z: i&1 != 0, S: i&2 != 0, C: i&4 != 0, O: i&8 != 0})
	}
	return l
}

func signed(v uint64) *big.Int   { return big.NewInt(int64(v)) }
func unsigned(v uint64) *big.Int { return new(big.Int).SetUint64(v) }

// like tells Z and S of v beside C and O.
func like(v uint64, c, o bool) api.Flags {
	return api.Flags{Z: v == 0, S: v >= 1<<63, C: c, O: o}
}

// beyond tells whether a number is none of 64 bits with a sign.
func beyond(x *big.Int) bool { return !x.IsInt64() }

func TestAddAndSub(t *testing.T) {
	for _, a := range edges {
		for _, b := range edges {
			for _, f := range flags() {
				sum, diff := new(big.Int).Add(unsigned(a), unsigned(b)), new(big.Int).Sub(unsigned(a), unsigned(b))
				over := beyond(new(big.Int).Add(signed(a), signed(b)))
				under := beyond(new(big.Int).Sub(signed(a), signed(b)))
				if v, g := alu.Do(api.AAdd, a, b, f); v != a+b || g != like(a+b, !sum.IsUint64(), over) {
					t.Fatalf("add %x %x: %x %v", a, b, v, g)
				}
				if v, g := alu.Do(api.ASub, a, b, f); v != a-b || g != like(a-b, diff.Sign() < 0, under) {
					t.Fatalf("sub %x %x: %x %v", a, b, v, g)
				}
				if v, g := alu.Do(api.ACmp, a, b, f); v != a || g != like(a-b, diff.Sign() < 0, under) {
					t.Fatalf("cmp %x %x: %x %v", a, b, v, g)
				}
			}
		}
	}
}

func TestLogic(t *testing.T) {
	for _, a := range edges {
		for _, b := range edges {
			for _, f := range flags() {
				for op, want := range map[int]uint64{api.AAnd: a & b, api.AOr: a | b, api.AXor: a ^ b} {
					if v, g := alu.Do(op, a, b, f); v != want || g != like(want, false, false) {
						t.Fatalf("%d %x %x: %x %v", op, a, b, v, g)
					}
				}
				if v, g := alu.Do(api.ATest, a, b, f); v != a || g != like(a&b, false, false) {
					t.Fatalf("test %x %x: %x %v", a, b, v, g)
				}
			}
		}
	}
}

func TestIncAndDecKeepC(t *testing.T) {
	for _, a := range edges {
		for _, f := range flags() {
			if v, g := alu.Do(api.AInc, a, 77, f); v != a+1 || g != like(a+1, f.C, a == 1<<63-1) {
				t.Fatalf("inc %x: %x %v", a, v, g)
			}
			if v, g := alu.Do(api.ADec, a, 77, f); v != a-1 || g != like(a-1, f.C, a == 1<<63) {
				t.Fatalf("dec %x: %x %v", a, v, g)
			}
		}
	}
}

func TestShifts(t *testing.T) {
	for _, a := range edges {
		for b := uint64(0); b < 200; b++ {
			for _, f := range flags() {
				n := b % 64
				left, right := a, a
				lastL, lastR := false, false
				for range n {
					lastL, left = left>>63 == 1, left<<1
					lastR, right = right&1 == 1, right>>1
				}
				wantL, wantR := like(left, lastL, false), like(right, lastR, false)
				if n == 0 {
					wantL, wantR = f, f
				}
				if v, g := alu.Do(api.AShl, a, b, f); v != left || g != wantL {
					t.Fatalf("shl %x %d: %x %v", a, b, v, g)
				}
				if v, g := alu.Do(api.AShr, a, b|1<<63|1<<32, f); v != right || g != wantR {
					t.Fatalf("shr %x %d: %x %v", a, b, v, g)
				}
			}
		}
	}
}

func TestAnotherOp(t *testing.T) {
	for _, op := range []int{-1, 11, 12, 256, math.MinInt, math.MaxInt} {
		for _, f := range flags() {
			if v, g := alu.Do(op, 5, 6, f); v != 5 || g != f {
				t.Error(op, v, g)
			}
		}
	}
}

func TestNumbersAreExact(t *testing.T) {
	if v, g := alu.Do(api.AAdd, math.MaxUint64, 1, api.Flags{}); v != 0 || g != (api.Flags{Z: true, C: true}) {
		t.Error(v, g)
	}
	// What is added is taken away again.
	for _, a := range edges {
		for _, b := range edges {
			v, _ := alu.Do(api.AAdd, a, b, api.Flags{})
			if v, _ = alu.Do(api.ASub, v, b, api.Flags{}); v != a {
				t.Error(a, b, v)
			}
		}
	}
}

func TestCond(t *testing.T) {
	for _, f := range flags() {
		want := map[int]bool{api.CB: f.C, api.CNB: !f.C, api.CE: f.Z, api.CNE: !f.Z, api.CS: f.S, api.CNS: !f.S, api.CL: f.S != f.O, api.CNL: f.S == f.O}
		for cc := -3; cc < 40; cc++ {
			if alu.Cond(cc, f) != want[cc] {
				t.Error(cc, f)
			}
		}
		if alu.Cond(math.MinInt, f) || alu.Cond(math.MaxInt, f) {
			t.Error("edges")
		}
	}
}

func TestCondOfWhatWasCompared(t *testing.T) {
	for _, a := range edges {
		for _, b := range edges {
			_, f := alu.Do(api.ACmp, a, b, api.Flags{})
			if alu.Cond(api.CB, f) != (a < b) || alu.Cond(api.CE, f) != (a == b) || alu.Cond(api.CL, f) != (int64(a) < int64(b)) {
				t.Errorf("%x %x", a, b)
			}
		}
	}
}
