package exps_test

import (
	"math"
	"reflect"
	"strconv"
	"strings"
	"testing"

	"slipway/api"
	"slipway/exps"
	"slipway/le"
)

// Where the tests' image has its rows. The directory reaches from dir on to the forwards' end.
const (
	dir   = 0x100
	funcs = 0x140
	names = 0x180
	index = 0x1A0
	texts = 0x1C0
	fwd   = 0x240
	size  = 0x200
	whole = 0x1000
)

type edit struct {
	at, n int
	v     uint64
}

// image offers four functions from number 5 on (a plain one, a gap, two forwards), three of them by names.
func image(edits ...edit) []byte {
	b := make([]byte, whole)
	for i, v := range []uint64{5, 4, 3, funcs, names, index} {
		le.Put(b, dir+16+4*i, 4, v)
	}
	for i, v := range []uint64{0x800, 0, fwd, fwd + 16} {
		le.Put(b, funcs+4*i, 4, v)
	}
	copy(b[texts:], "Alpha\x00beta\x00zz\x00")
	for i, v := range []uint64{texts, texts + 6, texts + 11} {
		le.Put(b, names+4*i, 4, v)
	}
	for i, v := range []uint64{3, 0, 1} {
		le.Put(b, index+2*i, 2, v)
	}
	copy(b[fwd:], "b.dll.f\x00")
	copy(b[fwd+16:], "C.#7\x00")
	for _, x := range edits {
		le.Put(b, x.at, x.n, x.v)
	}
	return b
}

func parse(edits ...edit) (api.Exports, api.Errno) {
	return exps.Parse(image(edits...), api.Dir{RVA: dir, Size: size})
}

func TestParse(t *testing.T) {
	want := api.Exports{Base: 5, Funcs: []api.Func{{RVA: 0x800}, {}, {Forward: "b.dll.f"}, {Forward: "C.#7"}}, Names: []api.Named{{Name: "Alpha", Index: 3}, {Name: "beta", Index: 0}, {Name: "zz", Index: 1}}}
	if e, n := parse(); n != api.OK || !reflect.DeepEqual(e, want) {
		t.Errorf("%v %+v", n, e)
	}
}

func TestParseOfNoDirectory(t *testing.T) {
	for _, size := range []int{0, 40, -1, math.MaxInt} {
		e, n := exps.Parse(image(), api.Dir{Size: size})
		if n != api.OK || e.Base != 0 || len(e.Funcs) != 0 || len(e.Names) != 0 {
			t.Error(size, e, n)
		}
	}
	if _, n := exps.Parse(nil, api.Dir{}); n != api.OK {
		t.Error(n)
	}
}

func TestParseOfAnEmptyDirectory(t *testing.T) {
	b := make([]byte, 60)
	le.Put(b, 20+16, 4, 65535)
	for i, v := range []uint64{0xFFFFFFFF, 0xFFFFFFFF, 0xFFFFFFFF} {
		le.Put(b, 20+28+4*i, 4, v)
	}
	// Rows without a byte may be said to be anywhere.
	e, n := exps.Parse(b, api.Dir{RVA: 20, Size: 40})
	if n != api.OK || e.Base != 65535 || len(e.Funcs) != 0 || len(e.Names) != 0 {
		t.Error(e, n)
	}
	le.Put(b, 20+16, 4, 65536)
	if _, n := exps.Parse(b, api.Dir{RVA: 20, Size: 40}); n != api.ErrExport {
		t.Error("a base that is none", n)
	}
}

func TestParseRefusesDirectories(t *testing.T) {
	b := image()
	for _, d := range []api.Dir{
		{RVA: dir, Size: 39}, {RVA: dir, Size: 0}, {RVA: dir, Size: -1}, {RVA: dir, Size: math.MinInt}, {RVA: dir, Size: whole - dir + 1}, {RVA: dir, Size: math.MaxInt},
		{RVA: -1, Size: 40}, {RVA: math.MinInt, Size: 40}, {RVA: math.MaxInt, Size: 40}, {RVA: whole - 39, Size: 40}, {RVA: whole, Size: 40}, {RVA: math.MinInt, Size: math.MinInt},
	} {
		if e, n := exps.Parse(b, d); n != api.ErrExport || !reflect.DeepEqual(e, api.Exports{}) {
			t.Error(d, n)
		}
	}
	if _, n := exps.Parse(b, api.Dir{RVA: dir, Size: whole - dir}); n != api.ErrExport {
		t.Error("the plain function is a forward then, of no text", n)
	}
	if _, n := exps.Parse(b, api.Dir{RVA: dir, Size: fwd + 16 + 5 - dir}); n != api.OK {
		t.Error("a directory that ends with the last text", n)
	}
}

func TestParseErrors(t *testing.T) {
	for _, x := range []struct {
		what string
		e    edit
		want api.Errno
	}{
		{"base", edit{dir + 16, 4, 65532}, api.OK}, {"base", edit{dir + 16, 4, 65533}, api.ErrExport}, {"base", edit{dir + 16, 4, 65536}, api.ErrExport}, {"base", edit{dir + 16, 4, 0xFFFFFFFF}, api.ErrExport}, {"base", edit{dir + 16, 4, 0}, api.OK},
		{"functions", edit{dir + 20, 4, 257}, api.ErrExport}, {"functions", edit{dir + 20, 4, 0xFFFFFFFF}, api.ErrExport}, {"functions", edit{dir + 20, 4, 3}, api.ErrExport},
		{"names", edit{dir + 24, 4, 257}, api.ErrExport}, {"names", edit{dir + 24, 4, 0xFFFFFFFF}, api.ErrExport}, {"names", edit{dir + 24, 4, 2}, api.OK}, {"names", edit{dir + 24, 4, 4}, api.ErrExport},
		{"row of functions", edit{dir + 28, 4, whole - 15}, api.ErrExport}, {"row of functions", edit{dir + 28, 4, whole - 16}, api.OK}, {"row of functions", edit{dir + 28, 4, 0xFFFFFFFF}, api.ErrExport},
		{"row of names", edit{dir + 32, 4, whole - 11}, api.ErrExport}, {"row of names", edit{dir + 32, 4, 0xFFFFFFFF}, api.ErrExport},
		{"row of indexes", edit{dir + 36, 4, whole - 5}, api.ErrExport}, {"row of indexes", edit{dir + 36, 4, whole - 6}, api.OK}, {"row of indexes", edit{dir + 36, 4, 0xFFFFFFFF}, api.ErrExport},
		{"function", edit{funcs, 4, whole - 1}, api.OK}, {"function", edit{funcs, 4, whole}, api.ErrExport}, {"function", edit{funcs, 4, 0xFFFFFFFF}, api.ErrExport}, {"function", edit{funcs, 4, 0}, api.OK},
		{"function ahead of the directory", edit{funcs, 4, dir - 1}, api.OK}, {"function behind it", edit{funcs, 4, dir + size}, api.OK},
		{"forward at its beginning", edit{funcs, 4, dir}, api.ErrExport}, {"forward at its end", edit{funcs, 4, dir + size - 1}, api.ErrExport},
		{"forward", edit{fwd, 1, '.'}, api.OK}, {"forward", edit{fwd, 1, ' '}, api.ErrExport}, {"forward", edit{fwd, 1, 0}, api.ErrExport}, {"forward", edit{fwd + 18, 1, '0'}, api.OK}, {"forward", edit{fwd + 19, 1, 'x'}, api.ErrExport},
		{"name", edit{texts, 1, '#'}, api.ErrExport}, {"name", edit{texts, 1, ' '}, api.ErrExport}, {"name", edit{texts, 1, 0}, api.ErrExport}, {"name", edit{texts, 1, 'a'}, api.OK},
		{"rising", edit{texts, 1, 'c'}, api.ErrExport}, {"rising", edit{names + 4, 4, texts}, api.ErrExport}, {"rising", edit{names + 8, 4, texts + 6}, api.ErrExport}, {"name's place", edit{names, 4, whole}, api.ErrExport}, {"name's place", edit{names, 4, 0xFFFFFFFF}, api.ErrExport},
		{"index", edit{index, 2, 4}, api.ErrExport}, {"index", edit{index, 2, 65535}, api.ErrExport}, {"index", edit{index, 2, 0}, api.OK}, {"index twice", edit{index + 4, 2, 0}, api.OK},
	} {
		e, n := parse(x.e)
		if n != x.want || n != api.OK && !reflect.DeepEqual(e, api.Exports{}) {
			t.Error(x.what, x.e, n)
		}
	}
}

// offer makes an image of many functions, each with a name.
func offer(n int, name func(i int) string) ([]byte, api.Dir) {
	b := make([]byte, 40000)
	for i, v := range []uint64{1, uint64(n), uint64(n), 2000, 4000, 6000} {
		le.Put(b, 1000+16+4*i, 4, v)
	}
	for i := range n {
		le.Put(b, 2000+4*i, 4, uint64(8000+i))
		le.Put(b, 4000+4*i, 4, uint64(10000+100*i))
		le.Put(b, 6000+2*i, 2, uint64(i))
		copy(b[10000+100*i:], name(i)+"\x00")
	}
	return b, api.Dir{RVA: 1000, Size: 40}
}

func TestManyFunctions(t *testing.T) {
	for n, want := range map[int]api.Errno{1: api.OK, 255: api.OK, 256: api.OK, 257: api.ErrExport} {
		b, d := offer(n, func(i int) string { return strconv.Itoa(1000 + i) })
		e, err := exps.Parse(b, d)
		if err != want || err == api.OK && (len(e.Funcs) != n || len(e.Names) != n) {
			t.Error(n, err)
		}
		if err != api.OK {
			continue
		}
		for i := range n {
			f, ok := exps.ByName(e, strconv.Itoa(1000+i))
			g, is := exps.ByOrd(e, 1+i)
			if !ok || !is || f != g || f.RVA != 8000+i {
				t.Fatal(n, i, f, g)
			}
		}
	}
}

func TestTooManyOfEither(t *testing.T) {
	for _, x := range []struct {
		funcs, names uint64
		want         api.Errno
	}{{256, 1, api.OK}, {257, 1, api.ErrExport}, {256, 256, api.OK}, {256, 257, api.ErrExport}, {1, 257, api.ErrExport}} {
		b, d := offer(257, func(i int) string { return strconv.Itoa(1000 + i) })
		le.Put(b, d.RVA+20, 4, x.funcs)
		le.Put(b, d.RVA+24, 4, x.names)
		le.Put(b, 6000+2*256, 2, 0)
		if _, e := exps.Parse(b, d); e != x.want {
			t.Error(x, e)
		}
	}
}

func TestARowOfNamesAtTheEnd(t *testing.T) {
	for n := 10; n <= 14; n++ {
		b := image(edit{dir + 32, 4, uint64(whole - n)})
		var row []byte
		for _, v := range []uint64{texts, texts + 6, texts + 11} {
			row = append(row, le.Bytes(v, 4)...)
		}
		copy(b[whole-n:], row)
		if _, e := exps.Parse(b, api.Dir{RVA: dir, Size: size}); (e == api.OK) != (n >= 12) {
			t.Error(n, e)
		}
	}
}

func TestLongTexts(t *testing.T) {
	for n := 58; n <= 66; n++ {
		b, d := offer(1, func(int) string { return strings.Repeat("n", n) })
		if _, e := exps.Parse(b, d); (e == api.OK) != (n <= 60) {
			t.Error("name", n, e)
		}
	}
	for n := 60; n <= 70; n++ {
		b := image()
		copy(b[fwd+16:], strings.Repeat("d", n-60)+"."+strings.Repeat("s", 59)+"\x00")
		_, e := exps.Parse(b, api.Dir{RVA: dir, Size: size})
		if want := n > 60 && n <= 64; (e == api.OK) != want {
			t.Error("forward", n, e)
		}
	}
}

func TestFindOfHandMadeOnes(t *testing.T) {
	e := api.Exports{Base: 10, Funcs: []api.Func{{RVA: 7}, {}, {Forward: "b.f"}, {RVA: 9}}, Names: []api.Named{
		{Name: "z", Index: 0}, {Name: "gap", Index: 1}, {Name: "a", Index: 2}, {Name: "beyond", Index: 4}, {Name: "below", Index: -1}, {Name: "a", Index: 3}, {Name: "far", Index: math.MaxInt}}}
	for name, want := range map[string]api.Func{"z": {RVA: 7}, "gap": {}, "a": {Forward: "b.f"}, "beyond": {}, "below": {}, "far": {}, "A": {}, "": {}, "none": {}} {
		f, ok := exps.ByName(e, name)
		g, is := exps.Find(e, api.Sym{Name: name, Ord: 10})
		if f != want || ok != (want != api.Func{}) || g != f || is != ok {
			t.Error(name, f, ok)
		}
	}
	for ord, want := range map[int]api.Func{9: {}, 10: {RVA: 7}, 11: {}, 12: {Forward: "b.f"}, 13: {RVA: 9}, 14: {}, -1: {}, 0: {}, math.MinInt: {}, math.MaxInt: {}, math.MinInt + 10: {}} {
		f, ok := exps.ByOrd(e, ord)
		g, is := exps.Find(e, api.Sym{Name: "z", Ord: ord, ByOrd: true})
		if f != want || ok != (want != api.Func{}) || g != f || is != ok {
			t.Error(ord, f, ok)
		}
	}
	e.Base = math.MaxInt
	if _, ok := exps.ByOrd(e, math.MinInt+2); ok {
		t.Error("a number goes round")
	}
	if _, ok := exps.Find(api.Exports{}, api.Sym{ByOrd: true}); ok {
		t.Error("of nothing")
	}
}
