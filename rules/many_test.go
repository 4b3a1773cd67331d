package rules_test

import (
	"fmt"
	"hash/crc32"
	"math/rand"
	"slices"
	"testing"

	"slipway/api"
	"slipway/forge"
	"slipway/life"
	"slipway/proc"
	"slipway/rules"
)

// names are those of the modules that a world may have; the last is no file's.
var names = []string{"a", "B", "c.dll", "D.exe", "e", "f", "nowhere"}

// body is code for an entry or a TLS call: most of it answers 1 at once, some fails in one way or the other.
func body(r *rand.Rand) []byte {
	switch r.Intn(16) {
	case 0:
		return code(api.Ins{Op: api.OMovL, A: 0}, api.Ins{Op: api.ORet})
	case 1:
		return code(api.Ins{Op: api.OJmpS, Disp: -2})
	case 2:
		return []byte{0x0F}
	case 3:
		return code(api.Ins{Op: api.OStoreR, A: 0, Disp: -100}, api.Ins{Op: api.ORet})
	case 4:
		return code(api.Ins{Op: api.OInt, Imm: 200}, api.Ins{Op: api.ORet})
	}
	return answer(1)
}

// worldPlan is any plan whose code is made of bodies.
func worldPlan(r *rand.Rand) api.Plan {
	p := api.Plan{Base: uint64(1+r.Intn(4)) << 20, Stamp: r.Intn(100), Dll: r.Intn(4) > 0, Data: make([]byte, 64)}
	var starts []int
	for range 4 {
		starts = append(starts, len(p.Code))
		p.Code = append(p.Code, body(r)...)
	}
	p.Entry = starts[r.Intn(4)]
	if r.Intn(4) == 0 {
		p.Entry = -1
	}
	p.Tls = r.Intn(2) == 0
	for p.Tls && r.Intn(2) == 0 && len(p.Calls) < 4 {
		p.Calls = append(p.Calls, starts[r.Intn(4)])
	}
	for i := range 3 {
		x := api.PExp{Name: fmt.Sprint("s", i), Ord: i + 1, At: starts[i]}
		if r.Intn(6) == 0 {
			x.At, x.Forward = 0, names[r.Intn(6)]+"."+fmt.Sprint("s", r.Intn(3))
		}
		p.Exports = append(p.Exports, x)
	}
	for r.Intn(2) == 0 && len(p.Imports) < 4 {
		n := names[r.Intn(6)]
		if r.Intn(20) == 0 {
			n = "nowhere"
		}
		p.Imports = append(p.Imports, api.PImp{Dll: n, Syms: []api.Sym{{Name: fmt.Sprint("s", r.Intn(3))}, {Ord: 1 + r.Intn(3), ByOrd: true}}})
	}
	if r.Intn(2) == 0 {
		p.Delays = []api.PImp{{Dll: names[r.Intn(7)], Syms: []api.Sym{{Name: "s0"}, {Name: "s9"}}}}
	}
	p.Rels = []api.PRel{{Kind: 10, InData: true, At: 8 * r.Intn(8)}}
	return p
}

func anyAct(r *rand.Rand) api.Act {
	name := names[r.Intn(len(names))]
	sym := api.Sym{Name: fmt.Sprint("s", r.Intn(4))}
	kind := []int{api.XLoad, api.XLoad, api.XLoad, api.XFree, api.XFree, api.XQuery, api.XStart, api.XEnd, api.XCall, api.XDelay, api.XPeek, 0}[r.Intn(12)]
	return api.Act{Kind: kind, Name: name, Sym: sym, Thread: 1 + r.Intn(6), Arg: uint64(r.Intn(1 << 22)), Imp: r.Intn(2), K: r.Intn(3)}
}

// left tells what a Load that fails must leave: modules, bases, handles, and pages that no code may write.
func left(p *proc.Proc) string {
	var mods []api.Module
	for _, id := range p.Table().All() {
		m, _ := p.Table().Get(id)
		mods = append(mods, m)
	}
	var fixed []byte
	for _, at := range p.Mem().Pages() {
		if prot, _ := p.Mem().Prot(at); prot&api.PW == 0 {
			b, _ := p.Mem().Peek(at, 4096)
			fixed = append(append(fixed, byte(prot)), b...)
		}
	}
	return fmt.Sprint(mods, p.Table().Attached(), p.Mem().Pages(), p.Threads(), crc32.ChecksumIEEE(fixed))
}

func world(t *testing.T, seed int64) []api.Reply {
	t.Helper()
	r := rand.New(rand.NewSource(seed))
	var files []api.File
	for _, n := range names[:6] {
		b, e := forge.Write(worldPlan(r))
		if e != api.OK {
			t.Fatal(seed, e)
		}
		files = append(files, api.File{Name: n, B: b})
	}
	l := life.New(files, 60+r.Intn(60), 3000)
	var replies []api.Reply
	for i := range 60 {
		x := anyAct(r)
		before, load := left(l.Proc()), x.Kind == api.XLoad
		reply := l.Do(x)
		replies = append(replies, reply)
		if load && reply.E != api.OK && left(l.Proc()) != before {
			t.Errorf("%d, %d: %+v: what was there is changed", seed, i, x)
		}
		if e := rules.Trace(l.Proc().Trace()); e != api.OK {
			t.Errorf("%d, %d: %+v: Trace %v", seed, i, x, l.Proc().Trace())
		}
		if e := rules.Proc(l.Proc()); e != api.OK {
			t.Errorf("%d, %d: %+v: Proc", seed, i, x)
		}
		if t.Failed() {
			t.FailNow()
		}
	}
	return replies
}

func TestManyProcesses(t *testing.T) {
	told := map[api.Errno]int{}
	for seed := range int64(150) {
		a := world(t, seed)
		for _, x := range a {
			told[x.E]++
			if x.E != api.OK && x.N != 0 {
				t.Error(x)
			}
		}
		if seed%10 == 0 && !slices.Equal(a, world(t, seed)) {
			t.Error(seed, "another time, other answers")
		}
	}
	for _, e := range []api.Errno{api.OK, api.ErrInit, api.ErrFuel, api.ErrGate, api.ErrOp, api.ErrFault, api.ErrNoModule, api.ErrNoExport, api.ErrCycle, api.ErrThread} {
		if told[e] == 0 {
			t.Error("never told:", e)
		}
	}
}
