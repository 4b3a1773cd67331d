package proc_test

import (
	"bytes"
	"fmt"
	"hash/crc32"
	"math"
	"slices"
	"strconv"
	"strings"
	"testing"

	"slipway/api"
	"slipway/dec"
	"slipway/forge"
	"slipway/le"
	"slipway/pe"
	"slipway/proc"
	"slipway/sect"
)

// code encodes instructions.
func code(l ...api.Ins) []byte {
	var b []byte
	for _, x := range l {
		c, ok := dec.Encode(x)
		if !ok {
			panic("no instruction")
		}
		b = append(b, c...)
	}
	return b
}

func movl(a int, v uint64) api.Ins { return api.Ins{Op: api.OMovL, A: a, Imm: v} }
func mov(to, from int) api.Ins     { return api.Ins{Op: api.OMov, A: from, B: to} }
func ask(n uint64) api.Ins         { return api.Ins{Op: api.OInt, Imm: n} }

var (
	ret  = api.Ins{Op: api.ORet}
	loop = api.Ins{Op: api.OJmpS, Disp: -2}
)

// answer is code that answers v.
func answer(v uint64) []byte { return code(movl(0, v), ret) }

// good says why it was told (1,000 and the reason), and answers 1.
func good() []byte {
	return code(mov(1, 2), movl(5, 1000), api.Ins{Op: api.OAlu, Alu: api.AAdd, A: 5, B: 1}, ask(32), movl(0, 1), ret)
}

// dll is a plan whose entry is its code.
func dll(c []byte) api.Plan {
	return api.Plan{Base: 0x200000, Dll: true, Code: c, Exports: []api.PExp{{Name: "f", Ord: 1}}}
}

// needing makes a plan ask for f of others.
func needing(p api.Plan, names ...string) api.Plan {
	for _, n := range names {
		p.Imports = append(p.Imports, api.PImp{Dll: n, Syms: []api.Sym{{Name: "f"}}})
	}
	return p
}

// plain has neither an entry nor TLS.
func plain() api.Plan {
	p := dll(answer(1))
	p.Entry = -1
	return p
}

func file(t *testing.T, name string, p api.Plan) api.File {
	t.Helper()
	b, e := forge.Write(p)
	if e != api.OK {
		t.Fatal(name, e)
	}
	return api.File{Name: name, B: b}
}

// start makes a process of plans "a", "b", ... in their order.
func start(t *testing.T, l ...api.Plan) *proc.Proc {
	t.Helper()
	var files []api.File
	for i, p := range l {
		files = append(files, file(t, string(rune('a'+i)), p))
	}
	return proc.New(files, 256, 10000)
}

// trace tells a trace in short: what, whom, why, thread and number.
func trace(p *proc.Proc) string {
	var l []string
	for _, x := range p.Trace() {
		kind := map[int]string{api.ETls: "tls", api.EMain: "main", api.ESay: "say", api.EFail: "fail"}[x.Kind]
		l = append(l, kind+" "+strings.TrimSuffix(x.Mod, ".dll")+" "+strconv.Itoa(x.Reason)+" "+strconv.Itoa(x.Thread)+" "+strconv.FormatUint(x.N, 10))
	}
	return strings.Join(l, ", ")
}

func load(t *testing.T, p *proc.Proc, name string) uint64 {
	t.Helper()
	base, e := p.Load(name)
	if e != api.OK {
		t.Fatalf("Load(%s): %v (%s)", name, e, trace(p))
	}
	return base
}

// keys tells the modules that are there, each with its handles.
func keys(p *proc.Proc) string {
	var l []string
	for _, id := range p.Table().All() {
		m, _ := p.Table().Get(id)
		s := strings.TrimSuffix(m.Key, ".dll") + strconv.Itoa(m.Handles)
		if m.Attached {
			s += "+"
		}
		l = append(l, s)
	}
	return strings.Join(l, " ")
}

func word(t *testing.T, p *proc.Proc, at uint64) uint64 {
	t.Helper()
	b, ok := p.Mem().Peek(at, 8)
	if !ok {
		t.Fatalf("%x", at)
	}
	v, _ := le.U64(b, 0)
	return v
}

func TestANewProcess(t *testing.T) {
	p := proc.New(nil, 10, 77)
	at, ok := p.Stack(1)
	prot, _ := p.Mem().Prot(at)
	if !ok || at != 65536 || prot != api.PR|api.PW || !slices.Equal(p.Mem().Pages(), []uint64{65536}) || !slices.Equal(p.Threads(), []int{1}) {
		t.Error(at, ok, prot, p.Mem().Pages(), p.Threads())
	}
	if p.Table().Count() != 0 || len(p.Trace()) != 0 || p.Fuel() != 77 || p.Mem().Free() != 9 || p.Slots().Get(1, 0) != 0 {
		t.Error(p.Table().Count(), p.Trace(), p.Fuel())
	}
	for _, id := range []int{0, 2, -1, math.MaxInt} {
		if at, ok := p.Stack(id); ok || at != 0 {
			t.Error(id)
		}
	}
	if proc.New(nil, 10, -5).Fuel() != 0 {
		t.Error("fuel")
	}
}

func TestAProcessWithoutAThread(t *testing.T) {
	p := proc.New([]api.File{file(t, "a", plain())}, 0, 100)
	if _, ok := p.Stack(1); ok || len(p.Threads()) != 0 {
		t.Error(p.Threads())
	}
	for _, name := range []string{"a", "gone", ""} {
		if base, e := p.Load(name); base != 0 || e != api.ErrSpace {
			t.Error(name, e)
		}
	}
	if id, e := p.Start(); id != 0 || e != api.ErrThread {
		t.Error(e)
	}
	if e := p.End(1); e != api.ErrThread {
		t.Error(e)
	}
	if _, e := p.Call(1, "gone", api.Sym{}, 0); e != api.ErrThread {
		t.Error(e)
	}
	if e := p.Free("a"); e != api.ErrNoModule {
		t.Error(e)
	}
	if _, e := p.Query("a", api.Sym{}); e != api.ErrNoModule {
		t.Error(e)
	}
}

func TestLoadComesInOrder(t *testing.T) {
	p := start(t, needing(dll(good()), "c", "b"), needing(dll(good()), "d"), needing(dll(good()), "d"), dll(good()))
	base := load(t, p, "A.DLL")
	if s := trace(p); s != "main d 1 1 0, say d 0 1 1001, main c 1 1 0, say c 0 1 1001, main b 1 1 0, say b 0 1 1001, main a 1 1 0, say a 0 1 1001" {
		t.Error(s)
	}
	if s := keys(p); s != "a1+ c0+ d0+ b0+" {
		t.Error(s)
	}
	m, _ := p.Table().Get(1)
	if base != m.Base || !slices.Equal(p.Table().Attached(), []int{3, 2, 4, 1}) {
		t.Error(base, m, p.Table().Attached())
	}
	// The first that is mapped has its base, and others are elsewhere.
	d, _ := p.Table().Get(3)
	if d.Base != 0x200000 || base == 0x200000 {
		t.Error(d.Base, base)
	}
}

func TestLoadOfWhatIsThere(t *testing.T) {
	p := start(t, needing(dll(good()), "b"), dll(good()))
	base := load(t, p, "a")
	events := len(p.Trace())
	if again := load(t, p, "A"); again != base || keys(p) != "a2+ b0+" {
		t.Error(again, keys(p))
	}
	b, _ := p.Table().Get(2)
	if got := load(t, p, "b.dll"); got != b.Base || keys(p) != "a2+ b1+" || len(p.Trace()) != events {
		t.Error(got, keys(p))
	}
}

func TestWhatIsLoadedIsBoundAndProtected(t *testing.T) {
	p := start(t, needing(plain(), "b", "c"), plain(), plain())
	base := load(t, p, "a")
	q, _ := p.Table().Pe(1)
	for i, imp := range q.Imps {
		want, e := p.Query(imp.Dll, api.Sym{Name: "f"})
		if got := word(t, p, base+uint64(imp.Iat)); got != want || e != api.OK {
			t.Error(i, got, want)
		}
	}
	for _, id := range p.Table().All() {
		m, _ := p.Table().Get(id)
		q, _ := p.Table().Pe(id)
		for rva := 0; rva < q.Head.Size; rva += 4096 {
			if prot, ok := p.Mem().Prot(m.Base + uint64(rva)); !ok || prot != sect.ProtAt(q.Head, rva) {
				t.Error(m.Key, rva, prot)
			}
		}
	}
	if len(p.Trace()) != 0 || keys(p) != "a1+ b0+ c0+" {
		t.Error(trace(p), keys(p))
	}
}

func TestLoadErrors(t *testing.T) {
	whole := file(t, "a", needing(plain(), "gone"))
	short := api.File{Name: "short", B: []byte("MZ")}
	p := proc.New([]api.File{whole, short}, 100, 100)
	for name, want := range map[string]api.Errno{"": api.ErrNoModule, "a b": api.ErrNoModule, strings.Repeat("n", 41): api.ErrNoModule, "x": api.ErrNoModule, "a": api.ErrNoModule, "short": api.ErrShort} {
		if base, e := p.Load(name); base != 0 || e != want {
			t.Error(name, base, e)
		}
	}
	if p.Table().Count() != 0 || len(p.Trace()) != 0 || len(p.Mem().Pages()) != 1 {
		t.Error(keys(p), p.Mem().Pages())
	}
}

func TestArgumentsOfAModuleThatIsTold(t *testing.T) {
	// It says all that it is given, and where its stack is.
	c := code(ask(32), mov(1, 2), ask(32), mov(1, 8), ask(32), mov(1, 4), ask(32), movl(0, 1), ret)
	p := start(t, dll(c))
	base := load(t, p, "a")
	stack, _ := p.Stack(1)
	if s := trace(p); s != "main a 1 1 0, say a 0 1 "+strconv.FormatUint(base, 10)+", say a 0 1 1, say a 0 1 0, say a 0 1 "+strconv.FormatUint(stack+4096-64-8, 10) {
		t.Error(s)
	}
}

// tlsPlan has two TLS calls, which say 1 and 2, and an entry that says 3 and answers v.
func tlsPlan(v uint64) api.Plan {
	one, two, three := code(movl(1, 1), ask(32), ret), code(movl(1, 2), ask(32), ret), code(movl(1, 3), ask(32), movl(0, v), ret)
	p := api.Plan{Base: 0x200000, Dll: true, Tls: true, Code: slices.Concat(one, two, three), Exports: []api.PExp{{Name: "f", Ord: 1}}}
	p.Calls = []int{len(one), 0}
	p.Entry = len(one) + len(two)
	return p
}

func TestTlsCallsComeAheadOfTheEntry(t *testing.T) {
	p := start(t, tlsPlan(1))
	load(t, p, "a")
	if s := trace(p); s != "tls a 1 1 0, say a 0 1 2, tls a 1 1 1, say a 0 1 1, main a 1 1 0, say a 0 1 3" {
		t.Error(s)
	}
	p.Free("a")
	if s := trace(p); !strings.HasSuffix(s, "say a 0 1 3, tls a 0 1 0, say a 0 1 2, tls a 0 1 1, say a 0 1 1, main a 0 1 0, say a 0 1 3") {
		t.Error(s)
	}
}

func TestEntriesOfOthersAreNotTold(t *testing.T) {
	exe := tlsPlan(0)
	exe.Dll = false
	without := tlsPlan(0)
	without.Entry = -1
	for i, plan := range []api.Plan{exe, without} {
		p := start(t, plan)
		load(t, p, "a")
		if s := trace(p); s != "tls a 1 1 0, say a 0 1 2, tls a 1 1 1, say a 0 1 1" || keys(p) != "a1+" {
			t.Error(i, s, keys(p))
		}
	}
}

func TestTlsIndexes(t *testing.T) {
	tls := api.Plan{Base: 0x200000, Entry: -1, Code: []byte{0xC3}, Tls: true}
	p := start(t, tls, needing(tls), plain(), tls)
	index := func(name string) int {
		id, _ := p.Table().Find(name)
		m, _ := p.Table().Get(id)
		return m.Index
	}
	p.Slots().Set(1, 0, 5)
	p.Slots().Set(1, 1, 6)
	base := load(t, p, "a")
	load(t, p, "c")
	if p.Slots().Get(1, 0) != 0 || p.Slots().Get(1, 1) != 6 {
		t.Error("the index's slots are not 0")
	}
	second := load(t, p, "b")
	if index("a") != 0 || index("b") != 1 || index("c") != -1 {
		t.Error(index("a"), index("b"), index("c"))
	}
	for i, at := range []uint64{base, second} {
		if b, _ := p.Mem().Peek(at+uint64(forge.IndexRVA(tls)), 4); !bytes.Equal(b, le.Bytes(uint64(i), 4)) {
			t.Error(i, b)
		}
	}
	p.Slots().Set(1, 0, 9)
	p.Slots().Set(1, 1, 9)
	p.Free("a")
	if p.Slots().Get(1, 0) != 0 || p.Slots().Get(1, 1) != 9 {
		t.Error("slots of one that went")
	}
	load(t, p, "d")
	if index("d") != 0 {
		t.Error("the least", index("d"))
	}
}

func TestTheLastTlsIndex(t *testing.T) {
	tls := api.Plan{Base: 0x200000, Entry: -1, Code: []byte{0xC3}, Tls: true}
	for gap := range 32 {
		p := proc.New([]api.File{file(t, "a", tls)}, 100, 100)
		for i := range 32 {
			if i != gap {
				id, _ := p.Table().Add("m"+strconv.Itoa(i), api.Pe{})
				p.Table().SetIndex(id, i)
			}
		}
		load(t, p, "a")
		if m, _ := p.Table().Get(32); m.Index != gap {
			t.Error(gap, m)
		}
	}
}

func TestFreeGoesInReverseOrder(t *testing.T) {
	p := start(t, needing(dll(good()), "c", "b"), needing(dll(good()), "d"), needing(dll(good()), "d"), dll(good()))
	load(t, p, "a")
	load(t, p, "d")
	n := len(p.Trace())
	if e := p.Free("A.dll"); e != api.OK {
		t.Error(e)
	}
	var gone []string
	for _, x := range p.Trace()[n:] {
		if x.Kind == api.EMain {
			gone = append(gone, x.Mod+strconv.Itoa(x.Reason)+strconv.Itoa(x.Thread))
		} else if x.N != 1000 {
			t.Error(x)
		}
	}
	if !slices.Equal(gone, []string{"a.dll01", "b.dll01", "c.dll01"}) || keys(p) != "d1+" {
		t.Error(gone, keys(p))
	}
	if e := p.Free("d"); e != api.OK || keys(p) != "" || len(p.Mem().Pages()) != 1 {
		t.Error(e, keys(p), p.Mem().Pages())
	}
}

func TestFreeTakesOneHandle(t *testing.T) {
	p := start(t, needing(dll(good()), "b"), dll(good()))
	load(t, p, "a")
	load(t, p, "a")
	n := len(p.Trace())
	if e := p.Free("a"); e != api.OK || keys(p) != "a1+ b0+" || len(p.Trace()) != n {
		t.Error(e, keys(p))
	}
	for _, name := range []string{"b", "gone", "", "a b"} {
		if e := p.Free(name); e != api.ErrNoModule || keys(p) != "a1+ b0+" {
			t.Error(name, e)
		}
	}
	if e := p.Free("a"); e != api.OK || keys(p) != "" {
		t.Error(e, keys(p))
	}
	if e := p.Free("a"); e != api.ErrNoModule {
		t.Error(e)
	}
}

func TestACycleGoesWhole(t *testing.T) {
	p := start(t, needing(dll(good()), "b"), needing(dll(good()), "c"), needing(dll(good()), "a"))
	load(t, p, "b")
	if s := keys(p); s != "b1+ c0+ a0+" || !slices.Equal(p.Table().Attached(), []int{3, 2, 1}) {
		t.Error(s, p.Table().Attached())
	}
	load(t, p, "a")
	p.Free("b")
	if s := keys(p); s != "b0+ c0+ a1+" {
		t.Error(s)
	}
	p.Free("a")
	if keys(p) != "" || len(p.Mem().Pages()) != 1 {
		t.Error(keys(p))
	}
}

// snap tells all that a failing call must leave.
func snap(p *proc.Proc) string {
	var mods []api.Module
	for _, id := range p.Table().All() {
		m, _ := p.Table().Get(id)
		mods = append(mods, m)
	}
	// What code may write is its own matter.
	var fixed []byte
	for _, at := range p.Mem().Pages() {
		if prot, _ := p.Mem().Prot(at); prot&api.PW == 0 {
			b, _ := p.Mem().Peek(at, 4096)
			fixed = append(fixed, byte(prot))
			fixed = append(fixed, b...)
		}
	}
	return fmt.Sprint(mods, p.Table().Attached(), p.Mem().Pages(), p.Threads(), crc32.ChecksumIEEE(fixed))
}

func TestWhatFailsLeavesWhatWas(t *testing.T) {
	for _, x := range []struct {
		what string
		c    []byte
		e    api.Errno
	}{
		{"answers 0", answer(0), api.ErrInit}, {"faults", code(api.Ins{Op: api.OLoadR, A: 0, Disp: -0x100000}), api.ErrFault}, {"is no code", []byte{0x0F}, api.ErrOp},
		{"asks for no gate", code(ask(99), movl(0, 1), ret), api.ErrGate}, {"goes on", code(loop), api.ErrFuel},
	} {
		p := start(t, needing(dll(good()), "b", "c", "d"), dll(good()), dll(x.c), dll(good()), dll(good()))
		load(t, p, "e")
		load(t, p, "b")
		before, n := snap(p), len(p.Trace())
		base, e := p.Load("a")
		if base != 0 || e != x.e || snap(p) != before {
			t.Errorf("%s: %v %s", x.what, e, snap(p))
		}
		want := []api.Ev{{Kind: api.EMain, Mod: "c.dll", Reason: 1, Thread: 1}, {Kind: api.EFail, Mod: "c.dll", Reason: 1, Thread: 1, N: uint64(x.e)}}
		if got := p.Trace()[n:]; !slices.Equal(got, want) {
			t.Errorf("%s: %v", x.what, got)
		}
	}
}

func TestThoseThatHadComeGoAgain(t *testing.T) {
	// b and c come, d fails: c and b go, in the reverse order, and a never comes.
	p := start(t, needing(dll(good()), "b", "c", "d"), dll(good()), tlsPlan(1), tlsPlan(0))
	p.Slots().Set(1, 0, 3)
	before := snap(p)
	_, e := p.Load("a")
	s := trace(p)
	if e != api.ErrInit || s != "main b 1 1 0, say b 0 1 1001, tls c 1 1 0, say c 0 1 2, tls c 1 1 1, say c 0 1 1, main c 1 1 0, say c 0 1 3, "+
		"tls d 1 1 0, say d 0 1 2, tls d 1 1 1, say d 0 1 1, main d 1 1 0, say d 0 1 3, fail d 1 1 23, "+
		"tls c 0 1 0, say c 0 1 2, tls c 0 1 1, say c 0 1 1, main c 0 1 0, say c 0 1 3, main b 0 1 0, say b 0 1 1000" {
		t.Error(e, s)
	}
	if snap(p) != before || p.Slots().Get(1, 0) != 0 {
		t.Error(snap(p))
	}
	// All can come once the one that failed is another.
	q := start(t, needing(dll(good()), "b", "c", "d"), dll(good()), tlsPlan(1), tlsPlan(1))
	if load(t, q, "a"); keys(q) != "a1+ b0+ c0+ d0+" {
		t.Error(keys(q))
	}
}

func TestATlsCallThatFails(t *testing.T) {
	plan := tlsPlan(1)
	plan.Calls = []int{0, len(plan.Code)}
	plan.Code = append(plan.Code, 0x0F)
	p := start(t, plan)
	if _, e := p.Load("a"); e != api.ErrOp || trace(p) != "tls a 1 1 0, say a 0 1 1, tls a 1 1 1, fail a 1 1 16" || keys(p) != "" {
		t.Error(e, trace(p), keys(p))
	}
}

func TestLoadFailsAheadOfBeingTold(t *testing.T) {
	missing := needing(dll(good()), "b")
	missing.Imports[0].Syms = []api.Sym{{Name: "f"}, {Name: "none"}}
	round := needing(dll(good()), "b")
	round.Imports[0].Syms = []api.Sym{{Name: "round"}}
	b := dll(good())
	b.Exports = append(b.Exports, api.PExp{Name: "round", Ord: 2, Forward: "b.round"})
	p := start(t, missing, b, round)
	before := snap(p)
	if _, e := p.Load("a"); e != api.ErrNoExport || snap(p) != before || len(p.Trace()) != 0 {
		t.Error(e, trace(p), snap(p))
	}
	if _, e := p.Load("c"); e != api.ErrCycle || snap(p) != before || len(p.Trace()) != 0 {
		t.Error(e, trace(p))
	}
	load(t, p, "b")
	before = snap(p)
	if _, e := p.Load("a"); e != api.ErrNoExport || snap(p) != before {
		t.Error(e, snap(p))
	}
}

func TestLoadWithoutSpace(t *testing.T) {
	files := []api.File{file(t, "a", needing(dll(good()), "b")), file(t, "b", dll(good()))}
	a, _ := pe.Parse(files[0].B)
	b, _ := pe.Parse(files[1].B)
	need := a.Head.Size/4096 + b.Head.Size/4096
	for pages := 1; pages <= need+1; pages++ {
		p := proc.New(files, pages, 1000)
		before := snap(p)
		base, e := p.Load("a")
		if pages <= need && (e != api.ErrSpace || base != 0 || snap(p) != before || len(p.Trace()) != 0) {
			t.Error(pages, e, snap(p))
		}
		if pages == need+1 && e != api.OK {
			t.Error(pages, e)
		}
	}
}

func TestAFixedImageThatHasNoRoom(t *testing.T) {
	fixed := file(t, "b", plain())
	at, _ := le.U32(fixed.B, 60)
	fixed.B[at+22] |= 1
	p := proc.New([]api.File{file(t, "a", plain()), fixed}, 100, 100)
	load(t, p, "a")
	before := snap(p)
	if _, e := p.Load("b"); e != api.ErrReloc || snap(p) != before {
		t.Error(e)
	}
}

func TestThreads(t *testing.T) {
	p := start(t, needing(dll(good()), "b"), tlsPlan(1), dll(good()))
	load(t, p, "a")
	n := len(p.Trace())
	id, e := p.Start()
	if id != 2 || e != api.OK || !slices.Equal(p.Threads(), []int{1, 2}) {
		t.Fatal(id, e)
	}
	told := func(from int) string {
		s := trace(p)
		return strings.Join(strings.Split(s, ", ")[from:], ", ")
	}
	if s := told(n); s != "tls b 2 2 0, say b 0 2 2, tls b 2 2 1, say b 0 2 1, main b 2 2 0, say b 0 2 3, main a 2 2 0, say a 0 2 1002" {
		t.Error(s)
	}
	one, _ := p.Stack(1)
	two, ok := p.Stack(2)
	if prot, _ := p.Mem().Prot(two); !ok || two == one || prot != api.PR|api.PW {
		t.Error(two, prot)
	}
	// One that comes later isn't told of the thread, but told when it goes.
	load(t, p, "c")
	n = len(p.Trace())
	p.Slots().Set(2, 20, 8)
	p.Slots().Set(1, 20, 8)
	if e := p.End(2); e != api.OK {
		t.Fatal(e)
	}
	if s := told(n); s != "main c 3 2 0, say c 0 2 1003, main a 3 2 0, say a 0 2 1003, tls b 3 2 0, say b 0 2 2, tls b 3 2 1, say b 0 2 1, main b 3 2 0, say b 0 2 3" {
		t.Error(s)
	}
	if _, there := p.Mem().Prot(two); there || p.Slots().Get(2, 20) != 0 || p.Slots().Get(1, 20) != 8 || !slices.Equal(p.Threads(), []int{1}) {
		t.Error("what a thread had is there")
	}
	if id, e := p.Start(); id != 3 || e != api.OK {
		t.Error("a number twice", id, e)
	}
}

func TestThreadErrors(t *testing.T) {
	p := start(t)
	for _, id := range []int{1, 0, 2, -1, math.MinInt, math.MaxInt} {
		if e := p.End(id); e != api.ErrThread {
			t.Error(id, e)
		}
	}
	for i := 2; i <= 8; i++ {
		if id, e := p.Start(); id != i || e != api.OK {
			t.Error(i, id, e)
		}
	}
	if id, e := p.Start(); id != 0 || e != api.ErrThread || len(p.Threads()) != 8 {
		t.Error(id, e)
	}
	p.End(5)
	if id, e := p.Start(); id != 9 || e != api.OK || !slices.Equal(p.Threads(), []int{1, 2, 3, 4, 6, 7, 8, 9}) {
		t.Error(id, e, p.Threads())
	}
	if e := p.End(5); e != api.ErrThread {
		t.Error(e)
	}
	q := proc.New(nil, 2, 10)
	if id, e := q.Start(); id != 2 || e != api.OK {
		t.Error(id, e)
	}
	if id, e := q.Start(); id != 0 || e != api.ErrSpace || !slices.Equal(q.Threads(), []int{1, 2}) {
		t.Error(id, e)
	}
	q.End(2)
	if id, e := q.Start(); id != 3 || e != api.OK {
		t.Error("a number that was not given", id, e)
	}
}

func TestWhoIsToldOfGoingHasLittleFuel(t *testing.T) {
	// The entry answers 1 to reason 1, and goes on forever otherwise.
	c := code(api.Ins{Op: api.OAluI, Alu: api.ACmp, B: 2, Imm: 1}, api.Ins{Op: api.OJcc, CC: api.CNE, Disp: 6}, movl(0, 1), ret, loop)
	plan := dll(c)
	p := start(t, plan, needing(dll(good()), "a"))
	load(t, p, "b")
	left := p.Fuel()
	if id, e := p.Start(); id != 2 || e != api.OK {
		t.Error(id, e)
	}
	if e := p.End(2); e != api.OK {
		t.Error(e)
	}
	if e := p.Free("b"); e != api.OK || keys(p) != "" {
		t.Error(e, keys(p))
	}
	if p.Fuel() != left {
		t.Error("by the process's fuel", left, p.Fuel())
	}
	// Just 256 steps are done: what is said by the step behind them is not said.
	for extra, says := range map[int]bool{252: true, 253: true, 254: false} {
		var l []api.Ins
		for range extra {
			l = append(l, api.Ins{Op: api.ONop})
		}
		l = append(l, movl(1, 7), api.Ins{Op: api.ONop}, ask(32), movl(0, 1), ret)
		p := start(t, dll(code(l...)))
		load(t, p, "a")
		p.Free("a")
		if got := strings.Count(trace(p), "say a 0 1 7") == 2; got != says {
			t.Error(extra, trace(p))
		}
	}
}

func TestErrorsOfGoingArePassedOver(t *testing.T) {
	bad := []byte{0x0F}
	c := code(api.Ins{Op: api.OAluI, Alu: api.ACmp, B: 2, Imm: 1}, api.Ins{Op: api.OJcc, CC: api.CNE, Disp: 6}, movl(0, 1), ret)
	plan := api.Plan{Base: 0x200000, Dll: true, Tls: true, Code: append(c, bad...), Calls: []int{0, 0}}
	p := start(t, plan)
	load(t, p, "a")
	n := len(p.Trace())
	p.Start()
	p.End(2)
	p.Free("a")
	want := []api.Ev{}
	for _, x := range [][2]int{{2, 2}, {3, 2}, {0, 1}} {
		for i := range 2 {
			want = append(want, api.Ev{Kind: api.ETls, Mod: "a.dll", Reason: x[0], Thread: x[1], N: uint64(i)})
		}
		want = append(want, api.Ev{Kind: api.EMain, Mod: "a.dll", Reason: x[0], Thread: x[1]})
	}
	if got := p.Trace()[n:]; !slices.Equal(got, want) || keys(p) != "" {
		t.Error(got)
	}
}

func TestFuelIsTheProcesss(t *testing.T) {
	p := start(t, dll(answer(1)))
	load(t, p, "a")
	if p.Fuel() != 10000-2 {
		t.Error(p.Fuel())
	}
	if v, e := p.Call(1, "a", api.Sym{Name: "f"}, 0); v != 1 || e != api.OK || p.Fuel() != 10000-4 {
		t.Error(v, e, p.Fuel())
	}
	q := proc.New([]api.File{file(t, "a", dll(answer(1)))}, 100, 1)
	if _, e := q.Load("a"); e != api.ErrFuel || q.Fuel() != 0 {
		t.Error(e, q.Fuel())
	}
}

func TestCall(t *testing.T) {
	// f answers its argument and 5, and says registers 2 and 8.
	c := code(movl(0, 5), api.Ins{Op: api.OAlu, Alu: api.AAdd, A: 1, B: 0}, mov(1, 2), ask(32), mov(1, 8), ask(32), ret)
	plan := plain()
	plan.Code = c
	other := plain()
	other.Exports = []api.PExp{{Name: "to", Ord: 1, Forward: "a.f"}, {Name: "round", Ord: 2, Forward: "b.round"}}
	p := start(t, plan, other)
	load(t, p, "b")
	p.Start()
	for _, x := range []struct {
		thread int
		name   string
		s      api.Sym
		mod    string
	}{{1, "a", api.Sym{Name: "f"}, "a.dll"}, {1, "A.DLL", api.Sym{Ord: 1, ByOrd: true}, "a.dll"}, {2, "b", api.Sym{Name: "to"}, "b.dll"}} {
		n := len(p.Trace())
		v, e := p.Call(x.thread, x.name, x.s, 37)
		say := api.Ev{Kind: api.ESay, Mod: x.mod, Thread: x.thread}
		if v != 42 || e != api.OK || !slices.Equal(p.Trace()[n:], []api.Ev{say, say}) {
			t.Error(x, v, e, p.Trace()[n:])
		}
	}
	for _, x := range []struct {
		thread int
		name   string
		s      string
		e      api.Errno
	}{{0, "gone", "f", api.ErrThread}, {3, "a", "f", api.ErrThread}, {-1, "a", "f", api.ErrThread}, {1, "gone", "f", api.ErrNoModule}, {1, "", "f", api.ErrNoModule}, {1, "a", "none", api.ErrNoExport}, {1, "b", "round", api.ErrCycle}} {
		if v, e := p.Call(x.thread, x.name, api.Sym{Name: x.s}, 1); v != 0 || e != x.e {
			t.Error(x, v, e)
		}
	}
}

func TestCallErrors(t *testing.T) {
	plan := plain()
	plan.Code = slices.Concat([]byte{0x0F}, code(ask(1)), code(loop), code(api.Ins{Op: api.OPush, A: 0}, api.Ins{Op: api.OJmpS, Disp: -3}))
	plan.Exports = []api.PExp{{Name: "op", Ord: 1}, {Name: "gate", Ord: 2, At: 1}, {Name: "loop", Ord: 3, At: 3}, {Name: "push", Ord: 4, At: 5}}
	p := start(t, plan)
	load(t, p, "a")
	for _, x := range []struct {
		s string
		e api.Errno
	}{{"op", api.ErrOp}, {"gate", api.ErrGate}, {"push", api.ErrFault}, {"loop", api.ErrFuel}, {"op", api.ErrFuel}} {
		if v, e := p.Call(1, "a", api.Sym{Name: x.s}, 0); v != 0 || e != x.e {
			t.Error(x, v, e)
		}
	}
	if p.Fuel() != 0 || keys(p) != "a1+" {
		t.Error(p.Fuel(), keys(p))
	}
}

func TestGatesOfTheThread(t *testing.T) {
	// set: slot 3 to the argument; get: what is there.
	set := code(mov(2, 1), movl(1, 3), ask(34), ret)
	get := code(movl(1, 3), ask(33), ret)
	plan := plain()
	plan.Code = slices.Concat(set, get)
	plan.Exports = []api.PExp{{Name: "set", Ord: 1}, {Name: "get", Ord: 2, At: len(set)}}
	p := start(t, plan)
	load(t, p, "a")
	p.Start()
	for _, id := range []int{1, 2} {
		if v, e := p.Call(id, "a", api.Sym{Name: "set"}, uint64(100*id)); v != 1 || e != api.OK {
			t.Error(id, v, e)
		}
	}
	for _, id := range []int{1, 2} {
		if v, e := p.Call(id, "a", api.Sym{Name: "get"}, 0); v != uint64(100*id) || e != api.OK {
			t.Error(id, v, e)
		}
	}
	if p.Slots().Get(1, 3) != 100 || p.Slots().Get(2, 3) != 200 {
		t.Error("slots")
	}
}

func TestQuery(t *testing.T) {
	a := plain()
	a.Exports = []api.PExp{{Name: "to", Ord: 1, Forward: "b.f"}, {Name: "own", Ord: 3, At: 2}}
	p := start(t, a, plain())
	base := load(t, p, "a")
	b, _ := p.Table().Get(2)
	for _, x := range []struct {
		name string
		s    api.Sym
		at   uint64
		e    api.Errno
	}{
		{"a", api.Sym{Name: "own"}, base + 4096 + 2, api.OK}, {"A", api.Sym{Ord: 3, ByOrd: true}, base + 4096 + 2, api.OK}, {"a", api.Sym{Name: "to"}, b.Base + 4096, api.OK}, {"b.dll", api.Sym{Name: "f"}, b.Base + 4096, api.OK},
		{"a", api.Sym{Ord: 2, ByOrd: true}, 0, api.ErrNoExport}, {"c", api.Sym{Name: "f"}, 0, api.ErrNoModule}, {"", api.Sym{}, 0, api.ErrNoModule},
	} {
		if at, e := p.Query(x.name, x.s); at != x.at || e != x.e {
			t.Error(x, at, e)
		}
	}
}

func TestAnswersAreApart(t *testing.T) {
	p := start(t, dll(good()))
	load(t, p, "a")
	l, th := p.Trace(), p.Threads()
	l[0].Mod, th[0] = "z", 9
	if p.Trace()[0].Mod != "a.dll" || p.Threads()[0] != 1 {
		t.Error("an answer is the process's own memory")
	}
}

func TestAModuleMayCallWhatItAskedFor(t *testing.T) {
	// a's entry calls b's f, by the place that was filled in, and says what it answers.
	b := plain()
	b.Code = answer(77)
	a := needing(dll(nil), "b")
	build := func(disp int) []byte {
		return code(api.Ins{Op: api.OCallR, Disp: disp}, mov(1, 0), ask(32), movl(0, 1), ret)
	}
	a.Code = build(0)
	at, _ := forge.IatRVA(a, 0, 0)
	a.Code = build(at - forge.TextRVA() - 6)
	p := start(t, a, b)
	load(t, p, "a")
	if s := trace(p); s != "main a 1 1 0, say a 0 1 77" {
		t.Error(s)
	}
}
