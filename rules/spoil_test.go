package rules_test

import (
	"bytes"
	"math/rand"
	"testing"

	"slipway/api"
	"slipway/forge"
	"slipway/le"
	"slipway/life"
	"slipway/pe"
	"slipway/rules"
)

// spoil changes some numbers of an image, in its head or in what it holds.
func spoil(r *rand.Rand, b []byte) []byte {
	b = bytes.Clone(b)
	for range 1 + r.Intn(4) {
		at := r.Intn(len(b))
		if r.Intn(3) == 0 {
			at = r.Intn(512)
		}
		switch r.Intn(4) {
		case 0:
			b[at] ^= 1 << r.Intn(8)
		case 1:
			le.Put(b, at, 4, uint64(r.Intn(1<<15)))
		case 2:
			le.Put(b, at&^3, 4, uint64(r.Intn(1<<15)))
		case 3:
			le.Put(b, at&^3, 4, uint64(r.Uint32()))
		}
	}
	if r.Intn(10) == 0 {
		b = b[:r.Intn(len(b))]
	}
	return b
}

// TestSpoiledImages asks that any bytes are one image or one error, and that a process of them ends and tells what it did in order.
func TestSpoiledImages(t *testing.T) {
	r := rand.New(rand.NewSource(28))
	good := 0
	for i := range 3000 {
		p := worldPlan(r)
		p.Imports = []api.PImp{{Dll: "b", Syms: []api.Sym{{Name: "s0"}}}}
		a, _ := forge.Write(p)
		b, _ := forge.Write(worldPlan(r))
		a, b = spoil(r, a), spoil(r, b)
		q, e := pe.Parse(a)
		if e == api.OK {
			good++
		} else if !pe.Same(q, api.Pe{}) {
			t.Fatal(i, e)
		}
		l := life.New([]api.File{{Name: "a", B: a}, {Name: "b", B: b}}, 200, 500)
		for _, x := range []api.Act{{Kind: api.XLoad, Name: "a"}, {Kind: api.XLoad, Name: "b"}, {Kind: api.XStart}, {Kind: api.XDelay, Name: "a"}, {Kind: api.XCall, Thread: 2, Name: "b", Sym: api.Sym{Name: "s1"}}, {Kind: api.XFree, Name: "a"}, {Kind: api.XEnd, Thread: 2}} {
			l.Do(x)
		}
		if e := rules.Trace(l.Proc().Trace()); e != api.OK {
			t.Fatal(i, l.Proc().Trace())
		}
		if _, e := l.Proc().Load("a"); e == api.OK {
			rules.Proc(l.Proc())
		}
	}
	if good < 300 {
		t.Error("few images", good)
	}
}
