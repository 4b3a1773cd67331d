package life_test

import (
	"math"
	"slices"
	"testing"

	"slipway/api"
	"slipway/dec"
	"slipway/forge"
	"slipway/le"
	"slipway/life"
)

func code(l ...api.Ins) []byte {
	var b []byte
	for _, x := range l {
		c, ok := dec.Encode(x)
		if !ok {
			panic("no instruction")
		}
		b = append(b, c...)
	}
	return b
}

func answer(v uint64) []byte {
	return code(api.Ins{Op: api.OMovL, A: 0, Imm: v}, api.Ins{Op: api.ORet})
}

func file(t *testing.T, name string, p api.Plan) api.File {
	t.Helper()
	b, e := forge.Write(p)
	if e != api.OK {
		t.Fatal(name, e)
	}
	return api.File{Name: name, B: b}
}

// plans are of the tests' files: a wants b and c and d late; b can be loaded, c's entry answers 0, d is nowhere.
func plans() map[string]api.Plan {
	f := []api.PExp{{Name: "f", Ord: 1}, {Name: "g", Ord: 2, At: 5}}
	round := append(f[:2:2], api.PExp{Name: "to", Ord: 3, Forward: "b.to"})
	sym := func(l ...string) []api.Sym {
		var s []api.Sym
		for _, n := range l {
			s = append(s, api.Sym{Name: n})
		}
		return s
	}
	return map[string]api.Plan{
		"a": {Base: 0x100000, Entry: -1, Code: answer(11), Data: []byte{1, 2, 3, 4, 5, 6, 7, 8, 9}, Exports: f, Delays: []api.PImp{{Dll: "B.DLL", Syms: sym("f", "g", "none", "to")}, {Dll: "c", Syms: sym("f")}, {Dll: "d", Syms: sym("f")}}},
		"b": {Base: 0x200000, Dll: true, Entry: 0, Code: answer(22), Exports: round},
		"c": {Base: 0x300000, Dll: true, Entry: 0, Code: answer(0), Exports: f},
	}
}

func files(t *testing.T) []api.File {
	t.Helper()
	p := plans()
	return []api.File{file(t, "a", p["a"]), file(t, "b", p["b"]), file(t, "c", p["c"])}
}

func newLife(t *testing.T) *life.Life {
	t.Helper()
	l := life.New(files(t), 200, 10000)
	if _, e := l.Proc().Load("a"); e != api.OK {
		t.Fatal(e)
	}
	return l
}

func word(t *testing.T, l *life.Life, at uint64) uint64 {
	t.Helper()
	b, ok := l.Proc().Mem().Peek(at, 8)
	if !ok {
		t.Fatalf("%x", at)
	}
	v, _ := le.U64(b, 0)
	return v
}

func handles(l *life.Life, name string) int {
	id, ok := l.Proc().Table().Find(name)
	if !ok {
		return -1
	}
	m, _ := l.Proc().Table().Get(id)
	return m.Handles
}

func TestDelay(t *testing.T) {
	l := newLife(t)
	pe, _ := l.Proc().Table().Pe(1)
	d := pe.Delays[0]
	for round := range 3 {
		at, e := l.Delay("A.dll", 0, 1)
		want, _ := l.Proc().Query("b", api.Sym{Name: "g"})
		if e != api.OK || at != want || at != 0x200000+4096+5 || word(t, l, 0x100000+uint64(d.Iat)+8) != at || word(t, l, 0x100000+uint64(d.Handle)) != 0x200000 {
			t.Errorf("%d: %x %v", round, at, e)
		}
		// It came by one handle, which stays; nothing is loaded twice.
		if handles(l, "b") != 1 || len(l.Proc().Trace()) != 1 {
			t.Error(handles(l, "b"))
		}
	}
	if at, e := l.Delay("a", 0, 0); e != api.OK || at != 0x200000+4096 || word(t, l, 0x100000+uint64(d.Iat)) != at {
		t.Error(at, e)
	}
}

func TestDelayOfWhatIsThere(t *testing.T) {
	l := newLife(t)
	l.Proc().Load("b")
	l.Proc().Load("b")
	if _, e := l.Delay("a", 0, 0); e != api.OK || handles(l, "b") != 2 {
		t.Error(e, handles(l, "b"))
	}
}

func TestDelayErrors(t *testing.T) {
	l := newLife(t)
	for _, x := range []struct {
		name     string
		imp, sym int
		e        api.Errno
	}{
		{"gone", 0, 0, api.ErrNoModule}, {"b", 9, 9, api.ErrNoModule}, {"", 0, 0, api.ErrNoModule}, {"a", 3, 0, api.ErrArg}, {"a", -1, 0, api.ErrArg}, {"a", 0, 4, api.ErrArg}, {"a", 0, -1, api.ErrArg}, {"a", 1, 1, api.ErrArg},
		{"a", math.MaxInt, 0, api.ErrArg}, {"a", 0, math.MinInt, api.ErrArg}, {"a", 2, 0, api.ErrNoModule}, {"a", 1, 0, api.ErrInit},
	} {
		if at, e := l.Delay(x.name, x.imp, x.sym); at != 0 || e != x.e || l.Proc().Table().Count() != 1 {
			t.Error(x, at, e, l.Proc().Table().Count())
		}
	}
	if at, e := l.Delay("a", 0, 2); at != 0 || e != api.ErrNoExport || handles(l, "b") != 1 {
		t.Error("the handle stays", at, e, handles(l, "b"))
	}
	if at, e := l.Delay("a", 0, 3); at != 0 || e != api.ErrCycle || handles(l, "b") != 1 {
		t.Error(at, e, handles(l, "b"))
	}
	pe, _ := l.Proc().Table().Pe(1)
	if word(t, l, 0x100000+uint64(pe.Delays[0].Handle)) != 0x200000 || word(t, l, 0x100000+uint64(pe.Delays[1].Handle)) != 0 {
		t.Error("handles")
	}
	if at, e := l.Delay("b", 0, 0); at != 0 || e != api.ErrArg {
		t.Error("of one that has none", at, e)
	}
}

func TestDo(t *testing.T) {
	l := life.New(files(t), 200, 10000)
	f := api.Sym{Name: "f"}
	for i, x := range []struct {
		act api.Act
		e   api.Errno
		n   uint64
	}{
		{api.Act{Kind: api.XQuery, Name: "a", Sym: f}, api.ErrNoModule, 0},
		{api.Act{Kind: api.XLoad, Name: "A"}, api.OK, 0x100000},
		{api.Act{Kind: api.XLoad, Name: "a.dll"}, api.OK, 0x100000},
		{api.Act{Kind: api.XLoad, Name: "c"}, api.ErrInit, 0},
		{api.Act{Kind: api.XLoad, Name: "gone"}, api.ErrNoModule, 0},
		{api.Act{Kind: api.XQuery, Name: "a", Sym: api.Sym{Ord: 2, ByOrd: true}}, api.OK, 0x101005},
		{api.Act{Kind: api.XQuery, Name: "a", Sym: api.Sym{Name: "no"}}, api.ErrNoExport, 0},
		{api.Act{Kind: api.XStart}, api.OK, 2},
		{api.Act{Kind: api.XStart}, api.OK, 3},
		{api.Act{Kind: api.XEnd, Thread: 1}, api.ErrThread, 0},
		{api.Act{Kind: api.XEnd, Thread: 2}, api.OK, 0},
		{api.Act{Kind: api.XEnd, Thread: 2}, api.ErrThread, 0},
		{api.Act{Kind: api.XCall, Thread: 3, Name: "a", Sym: f}, api.OK, 11},
		{api.Act{Kind: api.XCall, Thread: 2, Name: "a", Sym: f}, api.ErrThread, 0},
		{api.Act{Kind: api.XCall, Thread: 1, Name: "b", Sym: f}, api.ErrNoModule, 0},
		{api.Act{Kind: api.XDelay, Name: "a", Imp: 0, K: 1}, api.OK, 0x201005},
		{api.Act{Kind: api.XDelay, Name: "a", Imp: 0, K: 9}, api.ErrArg, 0},
		{api.Act{Kind: api.XDelay, Name: "a", Imp: 9, K: 0}, api.ErrArg, 0},
		{api.Act{Kind: api.XPeek, Arg: 0x102000}, api.OK, 0x0807060504030201},
		{api.Act{Kind: api.XPeek, Arg: 0x102001}, api.OK, 0x0908070605040302},
		{api.Act{Kind: api.XPeek, Arg: 0}, api.ErrFault, 0},
		{api.Act{Kind: api.XPeek, Arg: math.MaxUint64}, api.ErrFault, 0},
		{api.Act{Kind: api.XFree, Name: "a"}, api.OK, 0},
		{api.Act{Kind: api.XFree, Name: "A"}, api.OK, 0},
		{api.Act{Kind: api.XFree, Name: "a"}, api.ErrNoModule, 0},
		{api.Act{Kind: api.XPeek, Arg: 0x102000}, api.ErrFault, 0},
		{api.Act{Kind: 0, Name: "a"}, api.ErrArg, 0},
		{api.Act{Kind: 9}, api.ErrArg, 0},
		{api.Act{Kind: -1}, api.ErrArg, 0},
		{api.Act{Kind: math.MaxInt}, api.ErrArg, 0},
	} {
		if r := l.Do(x.act); r != (api.Reply{E: x.e, N: x.n}) {
			t.Error(i, x, r)
		}
	}
}

func TestPeekAtAnEnd(t *testing.T) {
	l := newLife(t)
	last := l.Proc().Mem().Pages()
	end := last[len(last)-1] + 4096
	for at, want := range map[uint64]api.Errno{end - 8: api.OK, end - 7: api.ErrFault, end - 1: api.ErrFault, end: api.ErrFault} {
		if r := l.Do(api.Act{Kind: api.XPeek, Arg: at}); r.E != want || want != api.OK && r.N != 0 {
			t.Error(at, r)
		}
	}
}

func TestCallHandsItsArgument(t *testing.T) {
	p := plans()["b"]
	p.Code = code(api.Ins{Op: api.OMov, A: 1, B: 0}, api.Ins{Op: api.ORet})
	p.Exports = []api.PExp{{Name: "f", Ord: 1}}
	l := life.New([]api.File{file(t, "b", p)}, 100, 100)
	l.Do(api.Act{Kind: api.XLoad, Name: "b"})
	if r := l.Do(api.Act{Kind: api.XCall, Thread: 1, Name: "b", Sym: api.Sym{Name: "f"}, Arg: math.MaxUint64}); r != (api.Reply{N: math.MaxUint64}) {
		t.Error(r)
	}
}

func TestRun(t *testing.T) {
	f := files(t)
	acts := []api.Act{{Kind: api.XLoad, Name: "a"}, {Kind: api.XStart}, {Kind: 77}, {Kind: api.XDelay, Name: "a", K: 1}, {Kind: api.XFree, Name: "b"}, {Kind: api.XFree, Name: "b"}, {Kind: api.XLoad, Name: "b"}}
	want := []api.Reply{{N: 0x100000}, {N: 2}, {E: api.ErrArg}, {N: 0x201005}, {}, {E: api.ErrNoModule}, {N: 0x200000}}
	for range 2 {
		if got := life.Run(f, 200, 1000, acts...); !slices.Equal(got, want) {
			t.Error(got)
		}
	}
	if got := life.Run(f, 200, 1000); len(got) != 0 {
		t.Error(got)
	}
	if got := life.Run(nil, 0, 0, acts[:2]...); !slices.Equal(got, []api.Reply{{E: api.ErrSpace}, {E: api.ErrThread}}) {
		t.Error(got)
	}
	if got := life.Run(f, 200, 1, api.Act{Kind: api.XLoad, Name: "b"}); !slices.Equal(got, []api.Reply{{E: api.ErrFuel}}) {
		t.Error(got)
	}
}

func TestProcIsTheOneThatIsLed(t *testing.T) {
	l := life.New(files(t), 200, 500)
	if l.Proc() == nil || l.Proc() != l.Proc() || l.Proc().Fuel() != 500 {
		t.Fatal("Proc")
	}
	l.Do(api.Act{Kind: api.XLoad, Name: "a"})
	if l.Proc().Table().Count() != 1 {
		t.Error(l.Proc().Table().Count())
	}
}
