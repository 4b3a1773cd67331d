package bound_test

import (
	"math"
	"reflect"
	"strings"
	"testing"

	"slipway/api"
	"slipway/bound"
	"slipway/le"
)

const (
	dir   = 0x100
	whole = 0x400
)

type edit struct {
	at, n int
	v     uint64
}

// image has three rows that stand alone and two that belong to the second.
func image(edits ...edit) []byte {
	b := make([]byte, whole)
	copy(b[dir+0x80:], "a.dll\x00B\x00")
	for i, x := range [][3]uint64{{0xFFFFFFFF, 0x80, 0}, {2, 0x86, 2}, {0, 0x80, 9}, {4, 0x86, 65535}, {5, 0x81, 0}} {
		le.Put(b, dir+8*i, 4, x[0])
		le.Put(b, dir+8*i+4, 2, x[1])
		le.Put(b, dir+8*i+6, 2, x[2])
	}
	for _, x := range edits {
		le.Put(b, x.at, x.n, x.v)
	}
	return b
}

func TestParse(t *testing.T) {
	b := image()
	want := []api.Bound{{Dll: "a.dll", Stamp: 0xFFFFFFFF}, {Dll: "B", Stamp: 2}, {Dll: "a.dll"}, {Dll: "B", Stamp: 4}, {Dll: ".dll", Stamp: 5}}
	for _, size := range []int{48, 0, -1, math.MaxInt} {
		if l, e := bound.Parse(b, api.Dir{RVA: dir, Size: size}); e != api.OK || !reflect.DeepEqual(l, want) {
			t.Error(size, e, l)
		}
	}
}

func TestNoDirectory(t *testing.T) {
	for _, b := range [][]byte{nil, image()} {
		if l, e := bound.Parse(b, api.Dir{Size: 9}); e != api.OK || len(l) != 0 {
			t.Error(e, l)
		}
	}
	if l, e := bound.Parse(make([]byte, 16), api.Dir{RVA: 8}); e != api.OK || len(l) != 0 {
		t.Error("a row of noughts", e, l)
	}
}

func TestParseErrors(t *testing.T) {
	for _, x := range []edit{
		{dir + 4, 2, whole - dir}, {dir + 4, 2, 65535}, {dir + 4, 2, 0x85}, {dir + 0x80, 1, ' '}, {dir + 0x86, 1, 0}, {dir + 0x86, 1, '/'},
		{dir + 14, 2, 4}, {dir + 14, 2, 65535}, {dir + 16, 8, 0}, {dir + 24, 8, 0}, {dir + 20, 2, 0x85}, {dir + 28, 2, 0xFFFF}, {dir + 38, 2, 1},
	} {
		if l, e := bound.Parse(image(x), api.Dir{RVA: dir}); e != api.ErrDir || l != nil {
			t.Error(x, e, l)
		}
	}
	for _, x := range []struct {
		e edit
		n int
	}{{edit{dir + 14, 2, 3}, 5}, {edit{dir + 8, 8, 0}, 1}, {edit{dir, 8, 0}, 0}, {edit{dir + 32, 8, 0}, 4}} {
		if l, e := bound.Parse(image(x.e), api.Dir{RVA: dir}); e != api.OK || len(l) != x.n {
			t.Error(x, e, l)
		}
	}
	// The third row is one of its own now, and asks for nine.
	if _, e := bound.Parse(image(edit{dir + 14, 2, 0}), api.Dir{RVA: dir}); e != api.ErrDir {
		t.Error(e)
	}
}

func TestDirectoriesOutside(t *testing.T) {
	b := image()
	for _, rva := range []int{-1, -8, math.MinInt, math.MaxInt, math.MaxInt - 7, whole, whole - 7} {
		if l, e := bound.Parse(b, api.Dir{RVA: rva}); e != api.ErrDir || l != nil {
			t.Error(rva, e)
		}
	}
	// What is left of the image would be a text, but is no whole row.
	copy(b[whole-4:], "abc")
	if l, e := bound.Parse(b, api.Dir{RVA: whole - 4}); e != api.ErrDir || l != nil {
		t.Error(e)
	}
	// A row at the end, and no row of noughts behind it.
	le.Put(b, whole-8, 4, 1)
	copy(b[whole-4:], "\x00\x00\x00\x00")
	if _, e := bound.Parse(b, api.Dir{RVA: whole - 8}); e != api.ErrDir {
		t.Error(e)
	}
}

// many makes an image of rows, every one of which but the first belongs to it, or stands alone.
func many(n int, belong bool) []byte {
	b := make([]byte, 2000)
	for i := range n {
		le.Put(b, 100+8*i, 4, uint64(i+1))
		le.Put(b, 104+8*i, 2, 1000)
	}
	if belong && n > 0 {
		le.Put(b, 106, 2, uint64(n-1))
	}
	copy(b[1100:], "m\x00")
	return b
}

func TestTheMost(t *testing.T) {
	for n := 0; n <= 35; n++ {
		for _, belong := range []bool{false, true} {
			l, e := bound.Parse(many(n, belong), api.Dir{RVA: 100})
			if (e == api.OK) != (n <= 32) || e == api.OK && len(l) != n {
				t.Error(n, belong, e, len(l))
			}
		}
	}
}

func TestLongTexts(t *testing.T) {
	for n := 38; n <= 43; n++ {
		b := many(1, false)
		copy(b[1100:], strings.Repeat("m", n)+"\x00")
		if _, e := bound.Parse(b, api.Dir{RVA: 100}); (e == api.OK) != (n <= 40) {
			t.Error(n, e)
		}
	}
}

func TestWhatWasBoundToAnotherOneIsTold(t *testing.T) {
	stamps := []api.Stamp{{Dll: "a.dll", Stamp: 1}, {Dll: "b.dll", Stamp: 2}, {Dll: "A", Stamp: 9}, {Dll: "c.exe", Stamp: 0}}
	for _, x := range []struct {
		l    []api.Bound
		want bool
	}{
		{nil, true}, {[]api.Bound{{Dll: "A", Stamp: 1}}, true}, {[]api.Bound{{Dll: "a.DLL", Stamp: 1}, {Dll: "B", Stamp: 2}}, true}, {[]api.Bound{{Dll: "a", Stamp: 9}}, false},
		{[]api.Bound{{Dll: "a", Stamp: 1}, {Dll: "b", Stamp: 1}}, false}, {[]api.Bound{{Dll: "c", Stamp: 0}}, false}, {[]api.Bound{{Dll: "C.EXE", Stamp: 0}}, true}, {[]api.Bound{{Dll: "d", Stamp: 0}}, false},
		{[]api.Bound{{Dll: "a", Stamp: 2}}, false},
	} {
		if bound.Fresh(x.l, stamps) != x.want {
			t.Error(x)
		}
	}
	if !bound.Fresh(nil, nil) || bound.Fresh([]api.Bound{{Dll: "a"}}, nil) {
		t.Error("of no stamps")
	}
}
