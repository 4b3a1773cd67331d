package bind_test

import (
	"math"
	"slices"
	"testing"

	"slipway/api"
	"slipway/bind"
	"slipway/forge"
	"slipway/le"
	"slipway/look"
	"slipway/mapper"
	"slipway/pe"
	"slipway/table"
	"slipway/vmem"
)

// world is a memory with modules that are mapped.
type world struct {
	t *testing.T
	m *vmem.Mem
	l *table.Table
}

func newWorld(t *testing.T) *world {
	return &world{t, vmem.New(256), table.New()}
}

func (w *world) add(name string, p api.Plan) int {
	w.t.Helper()
	p.Base, p.Entry, p.Code = 0x40000, -1, make([]byte, 200)
	b, e := forge.Write(p)
	if e != api.OK {
		w.t.Fatal(name, e)
	}
	q, e := pe.Parse(b)
	if e != api.OK {
		w.t.Fatal(name, e)
	}
	id, e := w.l.Add(name, q)
	if e != api.OK {
		w.t.Fatal(name, e)
	}
	base, e := mapper.Map(w.m, q)
	if e != api.OK {
		w.t.Fatal(name, e)
	}
	w.l.SetBase(id, base)
	return id
}

func (w *world) word(at uint64) uint64 {
	w.t.Helper()
	b, ok := w.m.Peek(at, 8)
	if !ok {
		w.t.Fatalf("%x", at)
	}
	v, _ := le.U64(b, 0)
	return v
}

func name(s string) api.Sym { return api.Sym{Name: s} }
func ord(n int) api.Sym     { return api.Sym{Ord: n, ByOrd: true} }

// offer and user are plans: user asks for two of b, one of c.
var offer = api.Plan{Exports: []api.PExp{{Name: "f", Ord: 1, At: 10}, {Name: "g", Ord: 2, At: 20}, {Name: "to", Ord: 3, Forward: "c.h"}, {Name: "round", Ord: 4, Forward: "B.round"}, {Name: "lost", Ord: 5, Forward: "z.f"}}}

func user(syms ...api.Sym) api.Plan {
	return api.Plan{Imports: []api.PImp{{Dll: "B.DLL", Syms: syms}, {Dll: "c", Syms: []api.Sym{name("h")}}}}
}

func TestAll(t *testing.T) {
	w := newWorld(t)
	a := w.add("a", user(name("g"), ord(1), name("to")))
	w.add("c", api.Plan{Exports: []api.PExp{{Name: "h", Ord: 7, At: 30}}})
	w.add("b", offer)
	if n, e := bind.All(w.m, w.l, a); n != 4 || e != api.OK {
		t.Fatal(n, e)
	}
	mod, _ := w.l.Get(a)
	p, _ := w.l.Pe(a)
	for _, i := range p.Imps {
		for k, s := range i.Syms {
			id, _ := w.l.Find(i.Dll)
			want, e := look.Find(w.l, id, s)
			if got := w.word(mod.Base + uint64(i.Iat+8*k)); got != want || e != api.OK {
				t.Errorf("%v: %x, not %x", s, got, want)
			}
		}
	}
	c, _ := w.l.Get(2)
	b, _ := w.l.Get(3)
	if w.word(mod.Base+uint64(p.Imps[0].Iat)) != b.Base+4096+20 || w.word(mod.Base+uint64(p.Imps[0].Iat+16)) != c.Base+4096+30 {
		t.Error("addresses")
	}
	// Again, after a module has another base: whatever it had been bound to.
	w.l.SetBase(3, 0x770000)
	if n, e := bind.All(w.m, w.l, a); n != 4 || e != api.OK || w.word(mod.Base+uint64(p.Imps[0].Iat)) != 0x770000+4096+20 {
		t.Error(n, e)
	}
}

func TestAllOfNone(t *testing.T) {
	w := newWorld(t)
	id := w.add("a", api.Plan{})
	before, _ := w.m.Peek(0x40000, 8192)
	if n, e := bind.All(w.m, w.l, id); n != 0 || e != api.OK {
		t.Error(n, e)
	}
	if after, _ := w.m.Peek(0x40000, 8192); !slices.Equal(before, after) {
		t.Error("written")
	}
	for _, id := range []int{0, 2, -1, math.MaxInt} {
		if n, e := bind.All(w.m, w.l, id); n != 0 || e != api.ErrNoModule {
			t.Error(id, n, e)
		}
	}
}

func TestAllTellsTheFirstError(t *testing.T) {
	for _, x := range []struct {
		syms []api.Sym
		n    int
		e    api.Errno
	}{
		{[]api.Sym{name("none"), name("f")}, 0, api.ErrNoExport}, {[]api.Sym{name("f"), name("g"), name("none")}, 2, api.ErrNoExport}, {[]api.Sym{name("f"), ord(99)}, 1, api.ErrNoExport}, {[]api.Sym{name("round")}, 0, api.ErrCycle},
		{[]api.Sym{ord(2), name("lost")}, 1, api.ErrNoModule}, {[]api.Sym{name("f"), name("g")}, 2, api.ErrNoModule}, {[]api.Sym{name("to")}, 0, api.ErrNoModule},
	} {
		w := newWorld(t)
		a := w.add("a", user(x.syms...))
		w.add("b", offer)
		if n, e := bind.All(w.m, w.l, a); n != x.n || e != x.e {
			t.Error(x.syms, n, e)
		}
	}
}

func TestOne(t *testing.T) {
	w := newWorld(t)
	a := w.add("a", user(name("f"), name("g")))
	w.add("b", offer)
	p, _ := w.l.Pe(a)
	mod, _ := w.l.Get(a)
	b, _ := w.l.Get(2)
	i := p.Imps[0]
	other := w.word(mod.Base + uint64(i.Iat))
	at, e := bind.One(w.m, w.l, mod.Base, i, 1)
	if at != b.Base+4096+20 || e != api.OK || w.word(mod.Base+uint64(i.Iat)+8) != at || w.word(mod.Base+uint64(i.Iat)) != other {
		t.Errorf("%x %v", at, e)
	}
	for _, k := range []int{-1, 2, 3, math.MinInt, math.MaxInt} {
		if at, e := bind.One(w.m, w.l, mod.Base, i, k); at != 0 || e != api.ErrArg {
			t.Error(k, at, e)
		}
	}
	i.Dll = "gone"
	if at, e := bind.One(w.m, w.l, mod.Base, i, 99); at != 0 || e != api.ErrNoModule {
		t.Error("the module is asked first", at, e)
	}
	i.Dll = "b"
	i.Syms[0] = name("none")
	if at, e := bind.One(w.m, w.l, mod.Base, i, 0); at != 0 || e != api.ErrNoExport || w.word(mod.Base+uint64(i.Iat)) != other {
		t.Error(at, e)
	}
	// It is written whatever the protection.
	w.m.Protect(mod.Base, p.Head.Size/4096, 0)
	i.Syms[0] = ord(1)
	if at, e := bind.One(w.m, w.l, mod.Base, i, 0); e != api.OK || w.word(mod.Base+uint64(i.Iat)) != at {
		t.Error(at, e)
	}
	for _, base := range []uint64{0, math.MaxUint64, 1 << 50} {
		i.Iat = math.MaxInt
		bind.One(w.m, w.l, base, i, 0)
	}
}

func TestStamps(t *testing.T) {
	w := newWorld(t)
	if l := bind.Stamps(w.l); len(l) != 0 {
		t.Error(l)
	}
	w.add("Zed", api.Plan{Stamp: 5})
	w.add("a.exe", api.Plan{Stamp: 1<<32 - 1})
	w.add("b", api.Plan{})
	if l := bind.Stamps(w.l); !slices.Equal(l, []api.Stamp{{Dll: "zed.dll", Stamp: 5}, {Dll: "a.exe", Stamp: 1<<32 - 1}, {Dll: "b.dll"}}) {
		t.Error(l)
	}
	w.l.Drop(2)
	if l := bind.Stamps(w.l); !slices.Equal(l, []api.Stamp{{Dll: "zed.dll", Stamp: 5}, {Dll: "b.dll"}}) {
		t.Error(l)
	}
}

func TestFresh(t *testing.T) {
	w := newWorld(t)
	w.add("b", api.Plan{Stamp: 5})
	none := w.add("none", api.Plan{})
	good := w.add("good", api.Plan{Bounds: []api.Bound{{Dll: "B.dll", Stamp: 5}}})
	old := w.add("old", api.Plan{Bounds: []api.Bound{{Dll: "b", Stamp: 4}}})
	lost := w.add("lost", api.Plan{Bounds: []api.Bound{{Dll: "b", Stamp: 5}, {Dll: "c", Stamp: 1}}})
	for id, want := range map[int]bool{none: false, good: true, old: false, lost: false, 0: false, 99: false, -1: false} {
		if bind.Fresh(w.l, id) != want {
			t.Error(id)
		}
	}
	w.add("C", api.Plan{Stamp: 1})
	if !bind.Fresh(w.l, lost) {
		t.Error("the other one has come")
	}
	w.l.Drop(1)
	if bind.Fresh(w.l, good) {
		t.Error("it is gone")
	}
}
