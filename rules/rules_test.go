package rules_test

import (
	"math"
	"slices"
	"testing"

	"slipway/api"
	"slipway/dec"
	"slipway/forge"
	"slipway/le"
	"slipway/life"
	"slipway/pe"
	"slipway/proc"
	"slipway/rules"
)

func code(l ...api.Ins) []byte {
	var b []byte
	for _, x := range l {
		c, ok := dec.Encode(x)
		if !ok {
			panic("no instruction")
		}
		b = append(b, c...)
	}
	return b
}

func answer(v uint64) []byte {
	return code(api.Ins{Op: api.OMovL, A: 0, Imm: v}, api.Ins{Op: api.OMov, A: 0, B: 1}, api.Ins{Op: api.OInt, Imm: 32}, api.Ins{Op: api.ORet})
}

// plan is told by a TLS call and by its entry, which answers v; it asks for f of others.
func plan(v uint64, needs ...string) api.Plan {
	p := api.Plan{Base: 0x200000, Dll: true, Code: answer(v), Data: make([]byte, 16), Tls: true, Calls: []int{0, 0}, Exports: []api.PExp{{Name: "f", Ord: 1}}, Rels: []api.PRel{{Kind: 10, InData: true, At: 8}}}
	for _, n := range needs {
		p.Imports = append(p.Imports, api.PImp{Dll: n, Syms: []api.Sym{{Name: "f"}, {Ord: 1, ByOrd: true}}})
	}
	return p
}

func file(t *testing.T, name string, p api.Plan) api.File {
	t.Helper()
	b, e := forge.Write(p)
	if e != api.OK {
		t.Fatal(name, e)
	}
	return api.File{Name: name, B: b}
}

func files(t *testing.T) []api.File {
	t.Helper()
	return []api.File{file(t, "a", plan(1, "b", "c")), file(t, "b", plan(1, "c")), file(t, "c", plan(1, "b")), file(t, "bad", plan(0)), file(t, "worse", plan(1, "c", "bad"))}
}

func load(l *life.Life, name string)  { l.Do(api.Act{Kind: api.XLoad, Name: name}) }
func free(l *life.Life, name string)  { l.Do(api.Act{Kind: api.XFree, Name: name}) }
func begin(l *life.Life)              { l.Do(api.Act{Kind: api.XStart}) }
func end(l *life.Life, thread int)    { l.Do(api.Act{Kind: api.XEnd, Thread: thread}) }
func newLife(t *testing.T) *life.Life { return life.New(files(t), 256, 100000) }

func TestWhatAProcessDoesIsAsItShouldBe(t *testing.T) {
	l := newLife(t)
	for i, act := range []func(){
		func() {}, func() { load(l, "worse") }, func() { load(l, "a") }, func() { begin(l) }, func() { load(l, "bad") }, func() { begin(l) }, func() { load(l, "b") }, func() { load(l, "worse") }, func() { end(l, 2) },
		func() { free(l, "a") }, func() { load(l, "a") }, func() { free(l, "b") }, func() { free(l, "a") }, func() { end(l, 3) }, func() { load(l, "c") }, func() { free(l, "c") },
	} {
		act()
		if e := rules.Trace(l.Proc().Trace()); e != api.OK {
			t.Error(i, "Trace", e, l.Proc().Trace())
		}
		if e := rules.Proc(l.Proc()); e != api.OK {
			t.Error(i, "Proc", e)
		}
	}
	if l.Proc().Table().Count() != 0 || len(l.Proc().Trace()) < 50 {
		t.Error("nothing happened", len(l.Proc().Trace()))
	}
}

func tls(mod string, reason, thread int, n uint64) api.Ev {
	return api.Ev{Kind: api.ETls, Mod: mod, Reason: reason, Thread: thread, N: n}
}
func entry(mod string, reason, thread int) api.Ev {
	return api.Ev{Kind: api.EMain, Mod: mod, Reason: reason, Thread: thread}
}
func fail(mod string) api.Ev {
	return api.Ev{Kind: api.EFail, Mod: mod, Reason: 1, Thread: 1, N: 23}
}
func say(mod string) api.Ev {
	return api.Ev{Kind: api.ESay, Mod: mod, Reason: 77, Thread: -1, N: 9}
}

func TestTracesThatAreRight(t *testing.T) {
	for i, l := range [][]api.Ev{
		nil, {say("a"), say("b")}, {entry("a", 1, 1)}, {tls("a", 1, 1, 0)}, {tls("a", 1, 1, 0), tls("a", 1, 1, 1), entry("a", 1, 1)},
		{tls("a", 1, 1, 0), say("a"), tls("a", 1, 1, 1), say("b"), entry("a", 1, 1), say("a")},
		{entry("a", 1, 1), entry("b", 1, 1), entry("b", 0, 1), entry("a", 0, 1), entry("a", 1, 1)},
		{entry("a", 1, 1), fail("a"), entry("a", 1, 1), fail("a")}, {entry("a", 1, 1), entry("b", 1, 1), fail("b"), entry("a", 0, 1)},
		{entry("a", 1, 1), entry("a", 2, 2), entry("a", 2, 3), entry("a", 3, 2), entry("a", 3, 3), entry("a", 0, 1)},
		{tls("a", 1, 1, 0), tls("b", 1, 1, 0), tls("a", 2, 2, 0), entry("a", 2, 2), tls("b", 2, 2, 0)},
		{entry("a", 1, 1), entry("A", 1, 1)}, {tls("a", 1, 1, 0), tls("a", 2, 1, 0), tls("a", 3, 1, 0), tls("a", 0, 1, 0)},
	} {
		if e := rules.Trace(l); e != api.OK {
			t.Error(i, l, e)
		}
	}
}

func TestTracesThatAreNot(t *testing.T) {
	with := func(x api.Ev, change func(x *api.Ev)) api.Ev {
		change(&x)
		return x
	}
	for i, l := range [][]api.Ev{
		{with(entry("a", 1, 1), func(x *api.Ev) { x.Kind = 0 })}, {with(entry("a", 1, 1), func(x *api.Ev) { x.Kind = 5 })}, {with(say("a"), func(x *api.Ev) { x.Kind = -1 })},
		{entry("a", -1, 1)}, {entry("a", 4, 1)}, {entry("a", 1, 1), entry("a", 4, 1)}, {entry("a", 1, 1), tls("a", -1, 1, 0)},
		{tls("a", 1, 1, 1)}, {tls("a", 1, 1, 0), tls("a", 1, 1, 0)}, {tls("a", 1, 1, 0), tls("a", 1, 1, 2)}, {tls("a", 1, 1, 0), tls("a", 1, 1, 1), tls("a", 1, 1, 3)}, {tls("a", 1, 1, math.MaxUint64)},
		{entry("a", 1, 1), tls("a", 1, 1, 0)}, {tls("a", 1, 1, 0), entry("a", 1, 1), tls("a", 1, 1, 1)}, {entry("a", 1, 1), entry("a", 1, 1)}, {entry("a", 1, 1), say("a"), entry("a", 1, 1)},
		{with(entry("a", 1, 1), func(x *api.Ev) { x.N = 1 })}, {tls("a", 1, 1, 0), with(entry("a", 1, 1), func(x *api.Ev) { x.N = 1 })},
		{entry("a", 1, 1), entry("b", 1, 1), entry("a", 1, 1)}, {entry("a", 1, 1), entry("a", 1, 2)}, {entry("a", 1, 1), entry("a", 2, 2), entry("a", 1, 1)},
		{entry("a", 0, 1)}, {entry("a", 2, 2)}, {entry("a", 3, 2)}, {entry("a", 1, 1), entry("a", 0, 1), entry("a", 2, 2)}, {entry("a", 1, 1), entry("a", 0, 1), entry("b", 1, 1), entry("a", 0, 1)},
		{entry("a", 1, 1), entry("b", 0, 1)}, {fail("a")}, {entry("a", 1, 1), fail("b")}, {entry("a", 1, 1), fail("a"), fail("a")}, {entry("a", 1, 1), fail("a"), entry("a", 0, 1)}, {entry("a", 1, 1), entry("a", 0, 1), fail("a")},
		{entry("a", 1, 1), with(fail("a"), func(x *api.Ev) { x.Reason = 0 })}, {entry("a", 1, 1), with(fail("a"), func(x *api.Ev) { x.Reason = 2 })}, {entry("a", 1, 1), with(fail("a"), func(x *api.Ev) { x.Reason = -1 })},
	} {
		if e := rules.Trace(l); e != api.ErrRule {
			t.Error(i, l, e)
		}
	}
}

func TestEachChangeOfATraceIsSeen(t *testing.T) {
	l := newLife(t)
	load(l, "a")
	begin(l)
	load(l, "worse")
	free(l, "a")
	whole := l.Proc().Trace()
	for i, x := range whole {
		if x.Kind == api.ESay {
			continue
		}
		for k, change := range []func(x *api.Ev){func(x *api.Ev) { x.Kind = 9 }, func(x *api.Ev) { x.Reason = 7 }, func(x *api.Ev) { x.Mod = "z" }} {
			got := slices.Clone(whole)
			change(&got[i])
			// Another one may come at any time.
			if e := rules.Trace(got); e != api.ErrRule && (k < 2 || x.Reason != 1) {
				t.Error(i, got[i])
			}
		}
		if x.Kind != api.EFail {
			got := slices.Clone(whole)
			got[i].N++
			if e := rules.Trace(got); e != api.ErrRule {
				t.Error(i, got[i])
			}
		}
	}
}

// loaded is a process with a, b and c, and two threads.
func loaded(t *testing.T) *proc.Proc {
	t.Helper()
	l := newLife(t)
	load(l, "a")
	begin(l)
	if l.Proc().Table().Count() != 3 || rules.Proc(l.Proc()) != api.OK {
		t.Fatal("loaded")
	}
	return l.Proc()
}

func get(p *proc.Proc, name string) (api.Module, api.Pe) {
	id, _ := p.Table().Find(name)
	m, _ := p.Table().Get(id)
	q, _ := p.Table().Pe(id)
	return m, q
}

func TestPagesThatMeet(t *testing.T) {
	for i, change := range []func(p *proc.Proc){
		func(p *proc.Proc) { a, _ := get(p, "a"); b, _ := get(p, "b"); p.Table().SetBase(b.ID, a.Base) },
		func(p *proc.Proc) {
			a, q := get(p, "a")
			b, _ := get(p, "b")
			p.Table().SetBase(a.ID, b.Base+uint64(q.Head.Size)-4096)
		},
		func(p *proc.Proc) { at, _ := p.Stack(2); c, _ := get(p, "c"); p.Table().SetBase(c.ID, at) },
		func(p *proc.Proc) { at, _ := p.Stack(1); c, _ := get(p, "c"); p.Table().SetBase(c.ID, at-8192) },
	} {
		p := loaded(t)
		change(p)
		if e := rules.Proc(p); e != api.ErrRule {
			t.Error(i, e)
		}
	}
}

func TestStacksOfHandMadeModules(t *testing.T) {
	// A module of no section takes the stack's page, and is protected as it says: just that they meet is wrong.
	p := proc.New(nil, 20, 10)
	at, _ := p.Stack(1)
	id, _ := p.Table().Add("m", api.Pe{Head: api.Head{Size: 4096, Sects: []api.Sect{{VSize: 4096, Chars: 0xC0000000}}}})
	p.Table().Handle(id, 1)
	p.Mem().Map(at+0x10000, 1, api.PR|api.PW)
	p.Table().SetBase(id, at+0x10000)
	if e := rules.Proc(p); e != api.OK {
		t.Error(e)
	}
	p.Table().SetBase(id, at)
	if e := rules.Proc(p); e != api.ErrRule {
		t.Error(e)
	}
	for _, base := range []uint64{0, math.MaxUint64, math.MaxUint64 - 4095, 1 << 47} {
		p.Table().SetBase(id, base)
		if e := rules.Proc(p); e != api.ErrRule {
			t.Error(base, e)
		}
	}
}

// square is a module of n pages that may be read and written, and is all one section.
func square(p *proc.Proc, name string, at uint64, n int) int {
	id, _ := p.Table().Add(name, api.Pe{Head: api.Head{Size: n * 4096, Sects: []api.Sect{{VSize: n * 4096, Chars: 0xC0000000}}}})
	p.Table().Handle(id, 1)
	p.Table().SetBase(id, at)
	return id
}

func TestPagesThatMeetInPart(t *testing.T) {
	const at = 0x100000
	for off := -5; off <= 5; off++ {
		p := proc.New(nil, 40, 10)
		p.Mem().Map(at-10*4096, 20, api.PR|api.PW)
		square(p, "a", at, 3)
		square(p, "b", uint64(at+off*4096), 2)
		want := api.OK
		if off > -2 && off < 3 {
			want = api.ErrRule
		}
		if e := rules.Proc(p); e != want {
			t.Error(off, e)
		}
	}
	for off := -4; off <= 4; off++ {
		p := proc.New(nil, 40, 10)
		stack, _ := p.Stack(1)
		p.Mem().Map(stack-6*4096, 6, api.PR|api.PW)
		p.Mem().Map(stack+4096, 6, api.PR|api.PW)
		square(p, "a", uint64(int(stack)+off*4096), 3)
		want := api.OK
		if off > -3 && off < 1 {
			want = api.ErrRule
		}
		if e := rules.Proc(p); e != want {
			t.Error("stack", off, e)
		}
	}
}

func TestPagesAndProtections(t *testing.T) {
	whole := loaded(t)
	for _, name := range []string{"a", "b", "c"} {
		m, q := get(whole, name)
		for rva := 0; rva < q.Head.Size; rva += 4096 {
			at := m.Base + uint64(rva)
			p := loaded(t)
			prot, _ := p.Mem().Prot(at)
			for other := range 16 {
				p.Mem().Protect(at, 1, other)
				want := api.ErrRule
				if other&^api.PG == prot {
					want = api.OK
				}
				if e := rules.Proc(p); e != want {
					t.Error(name, rva, other, e)
				}
			}
			p.Mem().Unmap(at, 1)
			if e := rules.Proc(p); e != api.ErrRule {
				t.Error(name, rva, "unmapped", e)
			}
		}
	}
}

func TestModulesThatShouldBeGone(t *testing.T) {
	p := loaded(t)
	a, _ := get(p, "a")
	p.Table().Handle(a.ID, -1)
	if e := rules.Proc(p); e != api.ErrRule {
		t.Error(e)
	}
	p.Table().Handle(a.ID, 5)
	if e := rules.Proc(p); e != api.OK {
		t.Error(e)
	}
	id, _ := p.Table().Add("more", api.Pe{})
	if e := rules.Proc(p); e != api.ErrRule {
		t.Error(e)
	}
	p.Table().Handle(id, 1)
	if e := rules.Proc(p); e != api.OK {
		t.Error(e)
	}
}

func TestLinks(t *testing.T) {
	whole := loaded(t)
	for _, name := range []string{"a", "b", "c"} {
		m, q := get(whole, name)
		for _, i := range q.Imps {
			for k := range i.Syms {
				p := loaded(t)
				at := m.Base + uint64(i.Iat+8*k)
				b, _ := p.Mem().Peek(at, 8)
				for n := range 8 {
					c := slices.Clone(b)
					c[n] ^= 0x10
					p.Mem().Poke(at, c)
					if e := rules.Proc(p); e != api.ErrRule {
						t.Error(name, i.Dll, k, n, e)
					}
				}
				// One that is not attached is not asked.
				p.Table().SetAttached(m.ID, false)
				if e := rules.Proc(p); e != api.OK {
					t.Error(name, i.Dll, k, "not attached", e)
				}
				p.Table().SetAttached(m.ID, true)
				p.Mem().Poke(at, b)
				if e := rules.Proc(p); e != api.OK {
					t.Error(name, i.Dll, k, e)
				}
			}
		}
	}
	p := loaded(t)
	b, _ := get(p, "b")
	p.Table().Drop(b.ID)
	if e := rules.Proc(p); e != api.ErrRule {
		t.Error("what is asked for is gone", e)
	}
}

func TestLinksThatCodeMayWrite(t *testing.T) {
	// The Iat is put into the data, which code may write.
	f := files(t)
	q, _ := pe.Parse(f[0].B)
	iat := q.Imps[0].Iat
	from := le.Bytes(uint64(iat), 4)
	n := 0
	for i := 0; i+4 <= len(f[0].B); i += 4 {
		if slices.Equal(f[0].B[i:i+4], from) {
			r, _ := pe.Parse(f[0].B)
			le.Put(f[0].B, i, 4, 8192)
			if s, e := pe.Parse(f[0].B); e == api.OK && s.Imps[0].Iat == 8192 && r.Imps[0].Dll == s.Imps[0].Dll {
				n++
				break
			}
			le.Put(f[0].B, i, 4, uint64(iat))
		}
	}
	if n != 1 {
		t.Fatal("no Iat is found")
	}
	l := life.New(f, 256, 10000)
	load(l, "a")
	m, _ := get(l.Proc(), "a")
	if e := rules.Proc(l.Proc()); e != api.OK || l.Proc().Table().Count() != 3 {
		t.Fatal(e)
	}
	l.Proc().Mem().Poke(m.Base+8192, []byte{9, 9, 9})
	if e := rules.Proc(l.Proc()); e != api.OK {
		t.Error(e)
	}
}

func TestImage(t *testing.T) {
	p := loaded(t)
	for _, id := range []int{0, -1, 99} {
		if l := rules.Image(p, id); len(l) != 0 {
			t.Error(id, l)
		}
	}
	for _, name := range []string{"a", "b", "c"} {
		m, q := get(p, name)
		want := []api.Span{}
		// The TLS index of all but the first is another; the places of imports are filled in.
		touched := make([]bool, q.Head.Size)
		for i := range 4 {
			touched[q.Tls.Index+i] = true
		}
		for _, i := range q.Imps {
			for k := range 8 * len(i.Syms) {
				touched[i.Iat+k] = true
			}
		}
		for _, s := range rules.Image(p, m.ID) {
			for i := s.At; i < s.At+s.N; i++ {
				if !touched[i] {
					t.Error(name, s)
				}
			}
			if n := len(want); n > 0 && want[n-1].At+want[n-1].N >= s.At {
				t.Error("beside each other", s)
			}
			want = append(want, s)
		}
		if len(want) == 0 {
			t.Error(name, "nothing is filled in")
		}
	}
}

func TestImageOfChanges(t *testing.T) {
	l := life.New([]api.File{file(t, "a", api.Plan{Base: 0x200000, Entry: -1, Code: make([]byte, 100), Data: make([]byte, 4096), Rels: []api.PRel{{Kind: 10, InData: true, At: 8}}})}, 100, 100)
	p := l.Proc()
	p.Mem().Map(0x200000, 1, 0)
	load(l, "a")
	m, q := get(p, "a")
	if m.Base == 0x200000 || len(rules.Image(p, m.ID)) != 0 {
		t.Error("one that was moved", rules.Image(p, m.ID))
	}
	p.Mem().Poke(m.Base+8192+4000, []byte{1, 1, 0, 1})
	p.Mem().Poke(m.Base, []byte{'m', 'Z'})
	p.Mem().Poke(m.Base+4095, []byte{7, 7, 7})
	last := uint64(q.Head.Size - 1)
	b, _ := p.Mem().Peek(m.Base+last, 1)
	p.Mem().Poke(m.Base+last, []byte{b[0] + 1})
	want := []api.Span{{At: 0, N: 1}, {At: 4095, N: 3}, {At: 12192, N: 2}, {At: 12195, N: 1}, {At: q.Head.Size - 1, N: 1}}
	if got := rules.Image(p, m.ID); !slices.Equal(got, want) {
		t.Error(got)
	}
	p.Mem().Unmap(m.Base+4096, 1)
	rules.Image(p, m.ID)
}
