package tlsdir_test

import (
	"math"
	"reflect"
	"testing"

	"slipway/api"
	"slipway/le"
	"slipway/tlsdir"
)

const (
	dir   = 0x40
	row   = 0x80
	index = 0x70
	whole = 0x200
	base  = 0x140000000
)

type edit struct {
	at, n int
	v     uint64
}

// image has an index and three callbacks.
func image(base uint64, edits ...edit) []byte {
	b := make([]byte, whole)
	le.Put(b, dir+16, 8, base+index)
	le.Put(b, dir+24, 8, base+row)
	for i, rva := range []uint64{0x100, 0, whole - 1} {
		le.Put(b, row+8*i, 8, base+rva)
	}
	for _, x := range edits {
		le.Put(b, x.at, x.n, x.v)
	}
	return b
}

func TestParse(t *testing.T) {
	want := api.Tls{Is: true, Index: index, Calls: []int{0x100, 0, whole - 1}}
	for _, at := range []uint64{65536, base, 1 << 45, math.MaxUint64 - 0x10} {
		for _, size := range []int{40, 0, -1} {
			l, e := tlsdir.Parse(image(at), api.Dir{RVA: dir, Size: size}, at)
			if e != api.OK || !reflect.DeepEqual(l, want) {
				t.Errorf("%x %d %v %v", at, size, e, l)
			}
		}
	}
}

func TestNoDirectory(t *testing.T) {
	for _, b := range [][]byte{nil, image(base)} {
		if l, e := tlsdir.Parse(b, api.Dir{Size: 40}, base); e != api.OK || l.Is || l.Index != 0 || len(l.Calls) != 0 {
			t.Error(l, e)
		}
	}
}

func TestNoCallbacks(t *testing.T) {
	for _, x := range []edit{{dir + 24, 8, 0}, {row, 8, 0}, {dir + 24, 8, base + whole - 8 - 0x10}} {
		l, e := tlsdir.Parse(image(base, x), api.Dir{RVA: dir}, base)
		if e != api.OK || !l.Is || l.Index != index || len(l.Calls) != 0 {
			t.Error(x, l, e)
		}
	}
	// At base 0 no address of a row is 0: there is none.
	b := image(0)
	le.Put(b, dir+24, 8, 0)
	if l, e := tlsdir.Parse(b, api.Dir{RVA: dir}, 0); e != api.OK || len(l.Calls) != 0 {
		t.Error(l, e)
	}
}

func TestErrors(t *testing.T) {
	for _, x := range []edit{
		{dir + 16, 8, 0}, {dir + 16, 8, base - 1}, {dir + 16, 8, base + whole - 3}, {dir + 16, 8, math.MaxUint64}, {dir + 16, 8, base + 1<<32}, {dir + 16, 8, base + 1<<63},
		{dir + 24, 8, 1}, {dir + 24, 8, base - 8}, {dir + 24, 8, base + whole - 7}, {dir + 24, 8, base + whole}, {dir + 24, 8, math.MaxUint64}, {dir + 24, 8, base + 1<<63},
		{row, 8, base + whole}, {row, 8, base - 1}, {row + 16, 8, 1}, {row + 8, 8, math.MaxUint64}, {row, 8, base + 1<<63},
	} {
		if l, e := tlsdir.Parse(image(base, x), api.Dir{RVA: dir}, base); e != api.ErrTls || !reflect.DeepEqual(l, api.Tls{}) {
			t.Error(x, l, e)
		}
	}
	if l, e := tlsdir.Parse(image(base, edit{dir + 16, 8, base + whole - 4}), api.Dir{RVA: dir}, base); e != api.OK || l.Index != whole-4 {
		t.Error("the last index", l, e)
	}
	if _, e := tlsdir.Parse(image(base), api.Dir{RVA: dir}, base+65536); e != api.ErrTls {
		t.Error("another base", e)
	}
}

func TestDirectoriesOutside(t *testing.T) {
	for _, rva := range []int{-1, math.MinInt, math.MaxInt, math.MaxInt - 39, whole - 39, whole} {
		if l, e := tlsdir.Parse(image(base), api.Dir{RVA: rva, Size: 40}, base); e != api.ErrTls || l.Is {
			t.Error(rva, l, e)
		}
	}
	// At base 0 an address of 0 would be a place.
	for _, rva := range []int{whole - 39, whole, math.MaxInt, -1} {
		if l, e := tlsdir.Parse(make([]byte, whole), api.Dir{RVA: rva}, 0); e != api.ErrTls || l.Is {
			t.Error(rva, l, e)
		}
	}
	if _, e := tlsdir.Parse(image(base, edit{whole - 24, 8, base}, edit{whole - 16, 8, 0}), api.Dir{RVA: whole - 40}, base); e != api.OK {
		t.Error("the last place", e)
	}
}

func TestARowThatIsNotEnded(t *testing.T) {
	b := image(base, edit{dir + 24, 8, base + whole - 8}, edit{whole - 8, 8, base})
	if _, e := tlsdir.Parse(b, api.Dir{RVA: dir}, base); e != api.ErrTls {
		t.Error(e)
	}
}

func TestTheMost(t *testing.T) {
	for n := 6; n <= 10; n++ {
		b := image(base)
		for i := range n {
			le.Put(b, row+8*i, 8, base+uint64(i))
		}
		le.Put(b, row+8*n, 8, 0)
		l, e := tlsdir.Parse(b, api.Dir{RVA: dir}, base)
		if (e == api.OK) != (n <= 8) || e == api.OK && len(l.Calls) != n {
			t.Error(n, l, e)
		}
	}
}
