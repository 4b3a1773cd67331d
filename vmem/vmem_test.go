package vmem_test

import (
	"bytes"
	"math"
	"slices"
	"testing"

	"slipway/api"
	"slipway/vmem"
)

const (
	page = 4096
	top  = 1 << 47
)

func TestMapBounds(t *testing.T) {
	for _, x := range []struct {
		at      uint64
		n, prot int
		want    api.Errno
	}{
		{0, 1, 0, api.OK}, {page, 1, 15, api.OK}, {65536, 1024, 3, api.OK}, {top - page, 1, 1, api.OK}, {top - 1024*page, 1024, 1, api.OK},
		{1, 1, 1, api.ErrArg}, {4095, 1, 1, api.ErrArg}, {page, 0, 1, api.ErrArg}, {page, -1, 1, api.ErrArg}, {page, 1025, 1, api.ErrArg},
		{page, math.MinInt, 1, api.ErrArg}, {page, math.MaxInt, 1, api.ErrArg}, {top, 1, 1, api.ErrArg}, {top - page, 2, 1, api.ErrArg},
		{top - 1023*page, 1024, 1, api.ErrArg}, {math.MaxUint64 - 4095, 1, 1, api.ErrArg}, {math.MaxUint64 - 4095, 2, 1, api.ErrArg},
		{1 << 63, 1, 1, api.ErrArg}, {page, 1, -1, api.ErrArg}, {page, 1, 16, api.ErrArg}, {page, 1, math.MinInt, api.ErrArg},
	} {
		m := vmem.New(1024)
		if e := m.Map(x.at, x.n, x.prot); e != x.want {
			t.Error(x, e)
		}
		want := 0
		if x.want == api.OK {
			want = x.n
		}
		if len(m.Pages()) != want || m.Free() != 1024-want {
			t.Error(x, len(m.Pages()), m.Free())
		}
	}
}

func TestMapOfPagesThatAreThere(t *testing.T) {
	m := vmem.New(10)
	if m.Map(4*page, 2, api.PR) != api.OK {
		t.Fatal()
	}
	for at, want := range map[uint64]api.Errno{3 * page: api.ErrArg, 4 * page: api.ErrArg, 5 * page: api.ErrArg, 2 * page: api.OK, 6 * page: api.OK} {
		c := m.Copy()
		if e := c.Map(at, 2, api.PR); e != want {
			t.Error(at, e)
		}
	}
	// Both errors apply: a page that is there is asked ahead of the space.
	if e := m.Map(4*page, 100, api.PR); e != api.ErrArg {
		t.Error(e)
	}
	if e := m.Map(8*page, 9, api.PR); e != api.ErrSpace {
		t.Error(e)
	}
	if e := m.Map(8*page, 8, api.PR); e != api.OK || m.Free() != 0 {
		t.Error(e, m.Free())
	}
	if e := m.Map(100*page, 1, api.PR); e != api.ErrSpace {
		t.Error(e)
	}
}

func TestNewHoldsItsNumber(t *testing.T) {
	for n, want := range map[int]int{-1: 0, 0: 0, 1: 1, 1024: 1024, 1025: 1024, math.MaxInt: 1024, math.MinInt: 0} {
		m := vmem.New(n)
		if m.Free() != want || len(m.Pages()) != 0 {
			t.Error(n, m.Free())
		}
	}
	if e := vmem.New(0).Map(page, 1, 1); e != api.ErrSpace {
		t.Error(e)
	}
}

func TestUnmapAndProtectAreAllOrNothing(t *testing.T) {
	m := vmem.New(20)
	m.Map(2*page, 3, api.PR)
	m.Map(7*page, 1, api.PW)
	for _, x := range []struct {
		at uint64
		n  int
	}{{2*page + 1, 1}, {2 * page, 0}, {2 * page, -1}, {2 * page, 4}, {page, 2}, {6 * page, 2}, {2 * page, 1025}, {2 * page, math.MinInt}, {top, 1}, {math.MaxUint64 - 4095, 3}} {
		if m.Unmap(x.at, x.n) || m.Protect(x.at, x.n, 7) {
			t.Error(x)
		}
	}
	if m.Protect(2*page, 1, 16) || m.Protect(2*page, 1, -1) {
		t.Error("protections")
	}
	for _, at := range []uint64{2 * page, 3 * page, 4 * page} {
		if p, ok := m.Prot(at); p != api.PR || !ok {
			t.Error(at, p)
		}
	}
	if !m.Protect(3*page, 2, api.PX|api.PG) || !m.Unmap(2*page, 2) {
		t.Error("of pages that are there")
	}
	if !slices.Equal(m.Pages(), []uint64{4 * page, 7 * page}) || m.Free() != 18 {
		t.Error(m.Pages(), m.Free())
	}
	if p, ok := m.Prot(4 * page); p != api.PX|api.PG || !ok {
		t.Error(p, ok)
	}
}

func TestProtIsOfThePageThatHasIt(t *testing.T) {
	m := vmem.New(4)
	m.Map(2*page, 1, 5)
	for at, want := range map[uint64]bool{2*page - 1: false, 2 * page: true, 2*page + 1: true, 3*page - 1: true, 3 * page: false, math.MaxUint64: false, top: false} {
		p, ok := m.Prot(at)
		if ok != want || ok && p != 5 || !ok && p != 0 {
			t.Error(at, p, ok)
		}
	}
}

func TestPagesRise(t *testing.T) {
	m := vmem.New(1024)
	for _, at := range []uint64{top - page, 9 * page, 0, 3 * page, 5 * page} {
		m.Map(at, 1, 1)
	}
	l := m.Pages()
	if !slices.Equal(l, []uint64{0, 3 * page, 5 * page, 9 * page, top - page}) {
		t.Error(l)
	}
	l[0] = 77
	if m.Pages()[0] != 0 {
		t.Error("the list is the memory's own")
	}
}

func TestPagesComeWithNoughts(t *testing.T) {
	m := vmem.New(4)
	m.Map(page, 1, 3)
	m.Poke(page, bytes.Repeat([]byte{9}, page))
	m.Unmap(page, 1)
	m.Map(page, 1, 3)
	if b, ok := m.Peek(page, page); !ok || !bytes.Equal(b, make([]byte, page)) {
		t.Error("what had been there is there again")
	}
}

func TestPeekAndPokeWhateverTheProtections(t *testing.T) {
	for prot := 0; prot <= 15; prot++ {
		m := vmem.New(20)
		m.Map(page, 17, prot)
		in := make([]byte, 65536)
		for i := range in {
			in[i] = byte(i*7 + i>>8)
		}
		if !m.Poke(page+5, in) {
			t.Fatal(prot)
		}
		out, ok := m.Peek(page+5, 65536)
		if !ok || !bytes.Equal(in, out) {
			t.Fatal(prot)
		}
		out[0]++
		if again, _ := m.Peek(page+5, 1); again[0] != in[0] {
			t.Fatal("an answer is the memory's own")
		}
		if p, _ := m.Prot(page); p != prot {
			t.Fatal("a protection was changed", p)
		}
	}
}

func TestPeekAndPokeRefuse(t *testing.T) {
	m := vmem.New(40)
	m.Map(page, 20, 3)
	m.Map(top-page, 1, 3)
	for _, x := range []struct {
		at   uint64
		n    int
		want bool
	}{
		{0, 1, false}, {page - 1, 1, false}, {page - 1, 2, false}, {page, 65536, true}, {page, 65537, false}, {21*page - 1, 1, true}, {21*page - 1, 2, false},
		{21 * page, 1, false}, {top - 1, 1, true}, {top - 1, 2, false}, {top, 1, false}, {math.MaxUint64, 1, false}, {math.MaxUint64, 5000, false}, {0, 0, true}, {math.MaxUint64, 0, true},
	} {
		b, ok := m.Peek(x.at, x.n)
		if ok != x.want || ok && len(b) != x.n || !ok && b != nil {
			t.Error("Peek", x, len(b), ok)
		}
		if m.Poke(x.at, make([]byte, x.n)) != x.want {
			t.Error("Poke", x)
		}
	}
	for _, n := range []int{-1, math.MinInt, math.MaxInt} {
		if _, ok := m.Peek(page, n); ok {
			t.Error(n)
		}
	}
	m.Poke(21*page-4, []byte{1, 2, 3, 4})
	if m.Poke(21*page-4, []byte{9, 9, 9, 9, 9}) {
		t.Error("beyond")
	}
	if b, _ := m.Peek(21*page-4, 4); !bytes.Equal(b, []byte{1, 2, 3, 4}) {
		t.Error("a part was written", b)
	}
}

// accesses are the three of 3.3, each with what it asks for and how it fails.
func accesses(m *vmem.Mem) []struct {
	name       string
	need, kind int
	do         func(at uint64, n int) ([]byte, api.Fault)
} {
	write := func(at uint64, n int) ([]byte, api.Fault) {
		f := m.Write(at, make([]byte, max(n, 0)))
		return make([]byte, max(n, 0)), f
	}
	return []struct {
		name       string
		need, kind int
		do         func(at uint64, n int) ([]byte, api.Fault)
	}{{"Read", api.PR, api.FRead, m.Read}, {"Write", api.PW, api.FWrite, write}, {"Fetch", api.PX, api.FExec, m.Fetch}}
}

func TestAccessesAskProtections(t *testing.T) {
	for prot := 0; prot <= 15; prot++ {
		for i := range 3 {
			m := vmem.New(4)
			m.Map(page, 1, prot)
			a := accesses(m)[i]
			if prot&api.PG != 0 {
				if _, f := a.do(page+7, 4); f != (api.Fault{Kind: api.FGuard, At: page + 7}) {
					t.Error(a.name, prot, f)
				}
				if p, _ := m.Prot(page); p != prot&^api.PG {
					t.Error(a.name, "the guard stays", p)
				}
			}
			want := api.Fault{}
			if prot&a.need == 0 {
				want = api.Fault{Kind: a.kind, At: page + 7}
			}
			b, f := a.do(page+7, 4)
			if f != want || f.Kind == api.FNone && len(b) != 4 {
				t.Error(a.name, prot, f, len(b))
			}
		}
	}
}

func TestAccessesAcrossPages(t *testing.T) {
	for i := range 3 {
		m := vmem.New(10)
		m.Map(page, 3, 7)
		a := accesses(m)[i]
		if b, f := a.do(page+1, 2*page); f.Kind != api.FNone || len(b) != 2*page {
			t.Error(a.name, f)
		}
		if _, f := a.do(3*page+1, page); f != (api.Fault{Kind: api.FFree, At: 4 * page}) {
			t.Error(a.name, "beyond", f)
		}
		if _, f := a.do(page-3, 10); f != (api.Fault{Kind: api.FFree, At: page - 3}) {
			t.Error(a.name, "ahead", f)
		}
		m.Protect(2*page, 1, 7-a.need)
		if _, f := a.do(page+100, page); f != (api.Fault{Kind: a.kind, At: 2 * page}) {
			t.Error(a.name, "the second", f)
		}
		m.Protect(3*page, 1, 15)
		if _, f := a.do(page+100, 2*page); f != (api.Fault{Kind: a.kind, At: 2 * page}) {
			t.Error(a.name, "the lowest first", f)
		}
		if p, _ := m.Prot(3 * page); p != 15 {
			t.Error(a.name, "a guard behind the fault was taken off")
		}
		m.Protect(2*page, 1, 7)
		if _, f := a.do(page+100, 2*page); f != (api.Fault{Kind: api.FGuard, At: 3 * page}) {
			t.Error(a.name, "the guard", f)
		}
		if _, f := a.do(page+100, 2*page); f.Kind != api.FNone {
			t.Error(a.name, "the guard twice", f)
		}
	}
}

func TestAccessesOfNoneAndOfTooMany(t *testing.T) {
	m := vmem.New(40)
	m.Map(page, 30, 7)
	for i := range 3 {
		a := accesses(m)[i]
		if b, f := a.do(page, 65536); f.Kind != api.FNone || len(b) != 65536 {
			t.Error(a.name, f)
		}
		if _, f := a.do(page+3, 65537); f != (api.Fault{Kind: api.FFree, At: page + 3}) {
			t.Error(a.name, f)
		}
		if b, f := a.do(0, 0); f != (api.Fault{}) || len(b) != 0 {
			t.Error(a.name, f)
		}
		for _, at := range []uint64{top, top - 1, math.MaxUint64 - 7, 1 << 63} {
			if _, f := a.do(at, 8); f != (api.Fault{Kind: api.FFree, At: at}) {
				t.Error(a.name, at, f)
			}
		}
	}
	for i := range 3 {
		if _, f := accesses(m)[i].do(math.MaxUint64-3, 8); f.Kind != api.FFree {
			t.Error("over the end", f)
		}
	}
	for _, n := range []int{-1, math.MinInt} {
		if b, f := m.Read(0, n); f != (api.Fault{}) || len(b) != 0 {
			t.Error(n, f)
		}
		if b, f := m.Fetch(0, n); f != (api.Fault{}) || len(b) != 0 {
			t.Error(n, f)
		}
	}
	if b, f := m.Read(page+9, math.MaxInt); f != (api.Fault{Kind: api.FFree, At: page + 9}) || b != nil {
		t.Error(f)
	}
}

func TestWhatMayNotBeWrittenIsNot(t *testing.T) {
	m := vmem.New(4)
	m.Map(page, 2, 3)
	m.Protect(2*page, 1, api.PR)
	in := []byte{1, 2, 3, 4, 5, 6, 7, 8}
	if f := m.Write(2*page-4, in); f != (api.Fault{Kind: api.FWrite, At: 2 * page}) {
		t.Error(f)
	}
	if b, _ := m.Peek(page, 2*page); !bytes.Equal(b, make([]byte, 2*page)) {
		t.Error("a part was written")
	}
	m.Protect(2*page, 1, 3)
	if f := m.Write(2*page-4, in); f.Kind != api.FNone {
		t.Error(f)
	}
	if b, f := m.Read(2*page-4, 8); f.Kind != api.FNone || !bytes.Equal(b, in) {
		t.Error(b, f)
	}
	in[0] = 99
	if b, _ := m.Peek(2*page-4, 1); b[0] != 1 {
		t.Error("what was handed in is kept")
	}
}

func TestCopyIsApart(t *testing.T) {
	m := vmem.New(5)
	m.Map(page, 2, api.PR|api.PW|api.PG)
	m.Poke(page, []byte{1, 2, 3})
	c := m.Copy()
	if !slices.Equal(c.Pages(), m.Pages()) || c.Free() != 3 {
		t.Fatal("the copy is another")
	}
	c.Poke(page, []byte{9})
	c.Read(page, 1)
	c.Unmap(2*page, 1)
	c.Map(5*page, 2, 1)
	if b, _ := m.Peek(page, 3); !bytes.Equal(b, []byte{1, 2, 3}) {
		t.Error("written through", b)
	}
	if p, _ := m.Prot(page); p != api.PR|api.PW|api.PG {
		t.Error("protected through", p)
	}
	if !slices.Equal(m.Pages(), []uint64{page, 2 * page}) || m.Free() != 3 {
		t.Error("mapped through", m.Pages())
	}
	if p, _ := c.Prot(page); p != api.PR|api.PW {
		t.Error("the copy's guard", p)
	}
}
