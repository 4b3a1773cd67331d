package imps_test

import (
	"math"
	"reflect"
	"strings"
	"testing"

	"slipway/api"
	"slipway/imps"
	"slipway/le"
)

// Where the tests' image has its rows: a is asked by thunks of its own, b by those at its Iat.
const (
	dirA  = 0x100
	dirD  = 0x180
	dllA  = 0x200
	dllB  = 0x210
	thunk = 0x240
	iatA  = 0x280
	iatB  = 0x2C0
	hint1 = 0x300
	hint2 = 0x310
	hndl  = 0x340
	whole = 0x400
)

type edit struct {
	at, n int
	v     uint64
}

func image(edits ...edit) []byte {
	b := make([]byte, whole)
	for i, v := range []uint64{thunk, 0x11223344, 0xAAAAAAAA, dllA, iatA, 0, 0xFFFFFFFF, 1, dllB, iatB} {
		le.Put(b, dirA+4*i, 4, v)
	}
	for i, v := range []uint64{1, dllA, hndl, iatA, thunk, 7, 8, 0xFFFFFFFE, 1, dllB, hndl + 8, iatB, 0, 0, 0, 0} {
		le.Put(b, dirD+4*i, 4, v)
	}
	copy(b[dllA:], "A.dll\x00")
	copy(b[dllB:], "b\x00")
	for i, v := range []uint64{hint1, 1<<63 | 65535, hint2} {
		le.Put(b, thunk+8*i, 8, v)
	}
	le.Put(b, iatB, 8, 1<<63)
	copy(b[hint1:], "\xff\xfff\x00")
	copy(b[hint2:], "\x00\x00?g@@\x00")
	for _, x := range edits {
		le.Put(b, x.at, x.n, x.v)
	}
	return b
}

var symsA = []api.Sym{{Name: "f"}, {Ord: 65535, ByOrd: true}, {Name: "?g@@"}}

func TestParse(t *testing.T) {
	b := image()
	want := []api.Imp{{Dll: "A.dll", Iat: iatA, Stamp: 0x11223344, Syms: symsA}, {Dll: "b", Iat: iatB, Stamp: 0xFFFFFFFF, Syms: []api.Sym{{ByOrd: true}}}}
	for _, size := range []int{40, 0, -1, math.MaxInt} {
		if l, e := imps.Parse(b, api.Dir{RVA: dirA, Size: size}); e != api.OK || !reflect.DeepEqual(l, want) {
			t.Errorf("%d %v %+v", size, e, l)
		}
	}
}

func TestDelays(t *testing.T) {
	b := image()
	want := []api.Imp{{Dll: "A.dll", Iat: iatA, Stamp: 0xFFFFFFFE, Handle: hndl, Syms: symsA}, {Dll: "b", Iat: iatB, Handle: hndl + 8, Syms: []api.Sym{{ByOrd: true}}}}
	for _, size := range []int{64, 0, -1, math.MaxInt} {
		if l, e := imps.Delays(b, api.Dir{RVA: dirD, Size: size}); e != api.OK || !reflect.DeepEqual(l, want) {
			t.Errorf("%d %v %+v", size, e, l)
		}
	}
}

// both are the two calls, each with its directory's length of a row.
var both = []struct {
	name string
	n    int
	do   func([]byte, api.Dir) ([]api.Imp, api.Errno)
}{{"Parse", 20, imps.Parse}, {"Delays", 32, imps.Delays}}

func TestNoDirectory(t *testing.T) {
	for _, x := range both {
		for _, b := range [][]byte{nil, image()} {
			if l, e := x.do(b, api.Dir{Size: 99}); e != api.OK || len(l) != 0 {
				t.Error(x.name, e, l)
			}
		}
	}
}

func TestDirectoriesOutside(t *testing.T) {
	b := image()
	for _, x := range both {
		for _, rva := range []int{-1, -20, math.MinInt, math.MaxInt, math.MaxInt - 19, whole, whole - x.n + 1} {
			if l, e := x.do(b, api.Dir{RVA: rva, Size: 40}); e != api.ErrImport || l != nil {
				t.Error(x.name, rva, e)
			}
		}
		if l, e := x.do(b, api.Dir{RVA: whole - x.n, Size: 40}); e != api.OK || len(l) != 0 {
			t.Error(x.name, "a row of noughts at the end", e)
		}
	}
}

func TestParseErrors(t *testing.T) {
	bad := []edit{
		{dirA + 12, 4, whole}, {dirA + 12, 4, 0xFFFFFFFF}, {dirA + 12, 4, dllA + 5}, {dllA, 1, ' '}, {dllA + 1, 1, '/'}, {dllB, 1, 0},
		{dirA, 4, whole - 7}, {dirA, 4, 0xFFFFFFFF}, {dirA + 16, 4, whole - 23}, {dirA + 16, 4, whole - 16}, {dirA + 16, 4, 0xFFFFFFFF}, {dirA + 36, 4, whole - 7}, {dirA + 36, 4, 0xFFFFFFFF},
		{thunk, 8, 0x80000000}, {thunk, 8, 1 << 62}, {thunk, 8, 1<<63 | 65536}, {thunk + 8, 8, 1<<63 | 1<<62}, {iatB, 8, 1<<63 | 1<<31}, {thunk, 8, math.MaxUint64},
		{thunk, 8, whole}, {thunk, 8, whole - 2}, {thunk, 8, 0x7FFFFFFF}, {hint1 + 2, 1, 0}, {hint1 + 2, 1, '#'}, {hint1 + 2, 1, ' '}, {hint2 + 2, 1, 0x7F},
	}
	for _, x := range bad {
		if l, e := imps.Parse(image(x), api.Dir{RVA: dirA}); e != api.ErrImport || l != nil {
			t.Error("Parse", x, e, l)
		}
	}
	for _, x := range []edit{{dirA + 16, 4, whole - 32}, {dirA + 8, 4, 5}, {thunk + 8, 8, 0}, {thunk, 8, 0}, {hint1, 2, 0}, {dirA + 20 + 12, 4, dllA}} {
		if _, e := imps.Parse(image(x), api.Dir{RVA: dirA}); e != api.OK {
			t.Error("Parse", x, e)
		}
	}
}

func TestDelaysErrors(t *testing.T) {
	for _, x := range []edit{
		{dirD, 4, 0}, {dirD, 4, 2}, {dirD, 4, 0xFFFFFFFF}, {dirD + 32, 4, 3}, {dirD + 8, 4, whole - 7}, {dirD + 8, 4, 0xFFFFFFFF}, {dirD + 4, 4, whole}, {dllB, 1, 0}, {dllA, 1, 0xFF},
		{dirD + 12, 4, whole - 23}, {dirD + 12, 4, whole - 16}, {dirD + 16, 4, whole - 7}, {thunk, 8, 1<<63 | 65536}, {hint2 + 2, 1, 0},
	} {
		if l, e := imps.Delays(image(x), api.Dir{RVA: dirD}); e != api.ErrImport || l != nil {
			t.Error(x, e, l)
		}
	}
	for _, x := range []edit{{dirD + 8, 4, whole - 8}, {dirD + 12, 4, whole - 32}, {dirD + 20, 8, 99}, {dirD + 8, 4, 0}} {
		if _, e := imps.Delays(image(x), api.Dir{RVA: dirD}); e != api.OK {
			t.Error(x, e)
		}
	}
}

func TestARowThatIsNotEnded(t *testing.T) {
	// The last whole row is a descriptor, and no row of noughts is behind it.
	b := append(make([]byte, 64), image()[dirA:dirA+20]...)
	copy(b[32:], "x\x00")
	le.Put(b, 64+12, 4, 32)
	le.Put(b, 64, 4, 40)
	le.Put(b, 64+16, 4, 48)
	if _, e := imps.Parse(b, api.Dir{RVA: 64}); e != api.ErrImport {
		t.Error(e)
	}
	if _, e := imps.Parse(append(b, make([]byte, 20)...), api.Dir{RVA: 64}); e != api.OK {
		t.Error(e)
	}
	if _, e := imps.Parse(append(b, make([]byte, 19)...), api.Dir{RVA: 64}); e != api.ErrImport {
		t.Error(e)
	}
}

func TestThunksThatAreNotEnded(t *testing.T) {
	b := image(edit{dirA, 4, whole - 8}, edit{whole - 8, 8, 1<<63 | 1})
	if _, e := imps.Parse(b, api.Dir{RVA: dirA}); e != api.ErrImport {
		t.Error(e)
	}
}

// many makes an image of n descriptors of k thunks.
func many(n, k int) []byte {
	b := make([]byte, 20000)
	for i := range n {
		for j, v := range []uint64{2000, 0, 0, 1000, 4000} {
			le.Put(b, 100+20*i+4*j, 4, v)
		}
		for j, v := range []uint64{1, 1000, 1100, 4000, 2000} {
			le.Put(b, 6000+32*i+4*j, 4, v)
		}
	}
	copy(b[1000:], "dll\x00")
	for j := range k {
		le.Put(b, 2000+8*j, 8, 1<<63|uint64(j))
	}
	return b
}

func TestTheMost(t *testing.T) {
	for n := 14; n <= 18; n++ {
		l, e := imps.Parse(many(n, 1), api.Dir{RVA: 100})
		d, f := imps.Delays(many(n, 1), api.Dir{RVA: 6000})
		if (e == api.OK) != (n <= 16) || f != e || e == api.OK && (len(l) != n || len(d) != n) {
			t.Error("descriptors", n, e, f)
		}
	}
	for k := 62; k <= 66; k++ {
		l, e := imps.Parse(many(1, k), api.Dir{RVA: 100})
		d, f := imps.Delays(many(1, k), api.Dir{RVA: 6000})
		if (e == api.OK) != (k <= 64) || f != e || e == api.OK && (len(l[0].Syms) != k || len(d[0].Syms) != k || l[0].Syms[k-1].Ord != k-1) {
			t.Error("symbols", k, e, f)
		}
	}
}

func TestLongTexts(t *testing.T) {
	for n := 39; n <= 42; n++ {
		b := many(1, 1)
		copy(b[1000:], strings.Repeat("d", n)+"\x00")
		if _, e := imps.Parse(b, api.Dir{RVA: 100}); (e == api.OK) != (n <= 40) {
			t.Error("dll", n, e)
		}
	}
	for n := 59; n <= 66; n++ {
		b := many(1, 1)
		le.Put(b, 2000, 8, 9000)
		copy(b[9002:], strings.Repeat("s", n)+"\x00")
		if _, e := imps.Parse(b, api.Dir{RVA: 100}); (e == api.OK) != (n <= 60) {
			t.Error("name", n, e)
		}
	}
}

func TestAnswersAreApart(t *testing.T) {
	b := many(2, 3)
	l, _ := imps.Parse(b, api.Dir{RVA: 100})
	_ = append(l[0].Syms, api.Sym{Name: "more"})
	l[0].Syms[0].Ord = 99
	if l[1].Syms[0].Ord != 0 || !reflect.DeepEqual(b, many(2, 3)) {
		t.Error(l)
	}
}
