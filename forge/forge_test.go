package forge_test

import (
	"bytes"
	"cmp"
	"math"
	"math/rand"
	"reflect"
	"slices"
	"strconv"
	"strings"
	"testing"

	"slipway/api"
	"slipway/fold"
	"slipway/forge"
	"slipway/pe"
	"slipway/sect"
)

func small() api.Plan {
	return api.Plan{Base: 0x10000, Entry: -1, Code: []byte{0xC3}}
}

// full has something of everything.
func full() api.Plan {
	code := make([]byte, 100)
	data := make([]byte, 60)
	for i := range code {
		code[i] = byte(i + 1)
	}
	for i := range data {
		data[i] = byte(200 - i)
	}
	return api.Plan{
		Base: 0x140000000, Stamp: 0xFFFFFFFF, Dll: true, Entry: 99, Code: code, Data: data,
		Exports: []api.PExp{{Name: "zeta", Ord: 9, At: 5}, {Name: "Alpha", Ord: 5, Forward: "b.#3"}, {Ord: 7, At: 99}, {Name: "beta", Ord: 6, Forward: "c.dll.g"}},
		Imports: []api.PImp{{Dll: "B.dll", Syms: []api.Sym{{Name: "f"}, {Ord: 65535, ByOrd: true}, {ByOrd: true}}}, {Dll: "c", Syms: []api.Sym{{Name: "?g@@"}}}},
		Delays:  []api.PImp{{Dll: "late", Syms: []api.Sym{{Name: "x"}, {Name: "y"}}}, {Dll: "later.dll", Syms: []api.Sym{{Ord: 4, ByOrd: true}}}},
		Rels:    []api.PRel{{Kind: 10, InData: true, At: 52}, {Kind: 3, At: 96}, {Kind: 10, At: 8}, {Kind: 3, InData: true, At: 0}, {Kind: 10, At: 0}},
		Tls:     true, Calls: []int{7, 0, 99, 7},
		Bounds: []api.Bound{{Dll: "B.dll", Stamp: 1}, {Dll: "c", Stamp: 0xFFFFFFFF}},
	}
}

// read writes a plan and reads the image.
func read(t *testing.T, p api.Plan) api.Pe {
	t.Helper()
	b, e := forge.Write(p)
	if e != api.OK {
		t.Fatalf("Write: %v of %+v", e, p)
	}
	q, e := pe.Parse(b)
	if e != api.OK {
		t.Fatalf("Parse: %v of %+v", e, p)
	}
	return q
}

// same asks whether q is as p was planned.
func same(t *testing.T, p api.Plan, q api.Pe) {
	t.Helper()
	h := q.Head
	if h.Base != p.Base || h.Stamp != p.Stamp || (h.Chars&0x2000 != 0) != p.Dll || h.Chars&1 != 0 || h.Size > 64*4096 {
		t.Errorf("head %+v", h)
	}
	entry := 0
	if p.Entry >= 0 {
		entry = forge.TextRVA() + p.Entry
	}
	if h.Entry != entry {
		t.Error("entry", h.Entry)
	}
	sections(t, p, q)
	exports(t, p, q)
	imports(t, p, q)
	rels(t, p, q)
	tls(t, p, q)
	if !slices.Equal(q.Bounds, p.Bounds) {
		t.Error("bounds", q.Bounds)
	}
}

func sections(t *testing.T, p api.Plan, q api.Pe) {
	t.Helper()
	l := q.Head.Sects
	text, data := forge.TextRVA(), forge.DataRVA(p)
	if len(l) < 2 || l[0].RVA != text || l[1].RVA != data || sect.Prot(l[0].Chars) != 5 || sect.Prot(l[1].Chars) != 3 || l[0].VSize < len(p.Code) || l[1].VSize < len(p.Data) {
		t.Fatalf("sections %+v", l)
	}
	if !bytes.Equal(q.Img[text:text+len(p.Code)], p.Code) || !bytes.Equal(q.Img[data:data+len(p.Data)], p.Data) {
		t.Error("code or data")
	}
	for _, s := range l[2:] {
		if prot := sect.Prot(s.Chars); prot != 1 && prot != 3 {
			t.Error("protection of", s)
		}
	}
}

func exports(t *testing.T, p api.Plan, q api.Pe) {
	t.Helper()
	if len(p.Exports) == 0 {
		if len(q.Exports.Funcs)+len(q.Exports.Names) != 0 {
			t.Error("exports", q.Exports)
		}
		return
	}
	low, high := 64, 1
	for _, x := range p.Exports {
		low, high = min(low, x.Ord), max(high, x.Ord)
	}
	want := api.Exports{Base: low, Funcs: make([]api.Func, high-low+1), Names: []api.Named{}}
	for _, x := range p.Exports {
		f := api.Func{RVA: forge.TextRVA() + x.At}
		if x.Forward != "" {
			f = api.Func{Forward: x.Forward}
		}
		want.Funcs[x.Ord-low] = f
		if x.Name != "" {
			want.Names = append(want.Names, api.Named{Name: x.Name, Index: x.Ord - low})
		}
	}
	slices.SortFunc(want.Names, func(a, b api.Named) int { return strings.Compare(a.Name, b.Name) })
	if q.Exports.Base != want.Base || !slices.Equal(q.Exports.Funcs, want.Funcs) || !slices.Equal(q.Exports.Names, want.Names) {
		t.Errorf("exports %+v, not %+v", q.Exports, want)
	}
}

func imports(t *testing.T, p api.Plan, q api.Pe) {
	t.Helper()
	if len(q.Imps) != len(p.Imports) || len(q.Delays) != len(p.Delays) {
		t.Fatal("imports", q.Imps, q.Delays)
	}
	all := slices.Concat(p.Imports, p.Delays)
	var places []int
	for i, x := range slices.Concat(q.Imps, q.Delays) {
		if x.Dll != all[i].Dll || x.Stamp != 0 || !slices.Equal(x.Syms, all[i].Syms) {
			t.Errorf("import %+v", x)
		}
		for k := range x.Syms {
			at, ok := forge.IatRVA(p, i, k)
			if !ok || at != x.Iat+8*k || at < forge.DataRVA(p)+4096 || at+8 > q.Head.Size {
				t.Error("Iat", i, k, at, ok)
			}
			places = append(places, at)
		}
		if i < len(q.Imps) {
			if x.Handle != 0 {
				t.Error("handle", x)
			}
			continue
		}
		if sect.ProtAt(q.Head, x.Handle) != 3 || x.Handle < forge.DataRVA(p)+4096 {
			t.Error("a handle where none may be written", x)
		}
		places = append(places, x.Handle)
	}
	if p.Tls {
		places = append(places, forge.IndexRVA(p))
	}
	slices.Sort(places)
	for i := 1; i < len(places); i++ {
		if places[i]-places[i-1] < 8 && (places[i]-places[i-1] < 4 || !p.Tls || places[i-1] != forge.IndexRVA(p)) {
			t.Error("places meet", places)
		}
	}
}

func rels(t *testing.T, p api.Plan, q api.Pe) {
	t.Helper()
	want := []api.Rel{}
	for _, x := range p.Rels {
		at := forge.TextRVA() + x.At
		if x.InData {
			at = forge.DataRVA(p) + x.At
		}
		want = append(want, api.Rel{Kind: x.Kind, RVA: at})
	}
	slices.SortFunc(want, func(a, b api.Rel) int { return cmp.Compare(a.RVA, b.RVA) })
	got := []api.Rel{}
	more := 0
	for _, r := range q.Rels {
		if r.RVA < forge.DataRVA(p)+4096 {
			got = append(got, r)
		} else {
			more++
		}
	}
	if !slices.Equal(got, want) || (more > 0) != p.Tls {
		t.Error("rels", q.Rels, want)
	}
}

func tls(t *testing.T, p api.Plan, q api.Pe) {
	t.Helper()
	want := api.Tls{Is: p.Tls}
	if p.Tls {
		want.Index = forge.IndexRVA(p)
		if sect.ProtAt(q.Head, want.Index) != 3 || want.Index < forge.DataRVA(p)+4096 {
			t.Error("index", want.Index)
		}
	}
	for _, at := range p.Calls {
		want.Calls = append(want.Calls, forge.TextRVA()+at)
	}
	if q.Tls.Is != want.Is || q.Tls.Index != want.Index || !slices.Equal(q.Tls.Calls, want.Calls) {
		t.Errorf("tls %+v, not %+v", q.Tls, want)
	}
}

func TestWhatIsMadeIsReadAsPlanned(t *testing.T) {
	for i, p := range []api.Plan{small(), full()} {
		before := clone(p)
		q := read(t, p)
		same(t, p, q)
		if !reflect.DeepEqual(p, before) {
			t.Error(i, "what was handed in is changed")
		}
		again := read(t, p)
		if !pe.Same(q, again) {
			t.Error(i, "made twice")
		}
	}
}

func clone(p api.Plan) api.Plan {
	p.Code, p.Data, p.Exports = slices.Clone(p.Code), slices.Clone(p.Data), slices.Clone(p.Exports)
	p.Imports, p.Delays, p.Rels, p.Calls = slices.Clone(p.Imports), slices.Clone(p.Delays), slices.Clone(p.Rels), slices.Clone(p.Calls)
	return p
}

func TestPlansOfSomeParts(t *testing.T) {
	for bits := range 512 {
		p, f := small(), full()
		p.Code, p.Data = f.Code, f.Data
		for k, take := range []func(){
			func() { p.Exports = f.Exports }, func() { p.Imports = f.Imports }, func() { p.Delays = f.Delays }, func() { p.Rels = f.Rels }, func() { p.Tls = true },
			func() { p.Bounds = f.Bounds }, func() { p.Dll = true }, func() { p.Data = nil; p.Rels = p.Rels[:0] }, func() { p.Tls = true; p.Calls = f.Calls },
		} {
			if bits>>k&1 == 1 {
				take()
			}
		}
		same(t, p, read(t, p))
	}
}

// most has the most of everything, with the longest names.
func most() api.Plan {
	long := func(c string, i, n int) string { return strings.Repeat(c, n-2) + strconv.Itoa(10+i) }
	p := api.Plan{Base: 1 << 45, Stamp: 1<<32 - 1, Entry: 4095, Code: make([]byte, 4096), Data: make([]byte, 4096), Tls: true, Calls: []int{4095, 0, 1, 4095}}
	for i := range 16 {
		p.Exports = append(p.Exports, api.PExp{Name: long("e", i, 60), Ord: 64 - i*63/15, Forward: long("d", i, 40) + "." + strings.Repeat("s", 23)})
	}
	for i := range 4 {
		a, b := api.PImp{Dll: long("i", i, 40)}, api.PImp{Dll: long("l", i, 40)}
		for k := range 8 {
			a.Syms = append(a.Syms, api.Sym{Name: long("s", k, 60)})
			b.Syms = append(b.Syms, api.Sym{Name: long("t", k, 60)})
		}
		p.Imports, p.Delays = append(p.Imports, a), append(p.Delays, b)
		p.Bounds = append(p.Bounds, api.Bound{Dll: long("b", i, 40), Stamp: 1<<32 - 1})
	}
	for i := range 64 {
		p.Rels = append(p.Rels, api.PRel{Kind: 10, InData: i%2 == 0, At: 4088 - 8*i})
	}
	return p
}

func TestTheMost(t *testing.T) {
	p := most()
	if !forge.Ok(p) {
		t.Fatal("Ok")
	}
	same(t, p, read(t, p))
	for i, more := range []func(p *api.Plan){
		func(p *api.Plan) { p.Base += 65536 }, func(p *api.Plan) { p.Stamp++ }, func(p *api.Plan) { p.Code = make([]byte, 4097) }, func(p *api.Plan) { p.Data = make([]byte, 4097) },
		func(p *api.Plan) { p.Exports = append(p.Exports, api.PExp{Ord: 3}) }, func(p *api.Plan) { p.Imports = append(p.Imports, p.Imports[0]) }, func(p *api.Plan) { p.Delays = append(p.Delays, p.Delays[0]) },
		func(p *api.Plan) { p.Rels = append(p.Rels, api.PRel{Kind: 3, At: 0}) }, func(p *api.Plan) { p.Calls = append(p.Calls, 0) }, func(p *api.Plan) { p.Bounds = append(p.Bounds, p.Bounds[0]) },
		func(p *api.Plan) { p.Imports[3].Syms = append(p.Imports[3].Syms, api.Sym{Name: "n"}) }, func(p *api.Plan) { p.Delays[0].Syms = append(p.Delays[0].Syms, api.Sym{Name: "n"}) }, func(p *api.Plan) { p.Entry = 4096 },
	} {
		q := most()
		more(&q)
		if forge.Ok(q) {
			t.Error(i)
		}
	}
}

func TestOkRefuses(t *testing.T) {
	syms := func(l ...api.Sym) []api.PImp { return []api.PImp{{Dll: "d", Syms: l}} }
	for i, change := range []func(p *api.Plan){
		func(p *api.Plan) { p.Base = 0 }, func(p *api.Plan) { p.Base = 32768 }, func(p *api.Plan) { p.Base++ }, func(p *api.Plan) { p.Base = 1<<45 + 65536 }, func(p *api.Plan) { p.Base = math.MaxUint64 - 65535 },
		func(p *api.Plan) { p.Stamp = -1 }, func(p *api.Plan) { p.Stamp = 1 << 32 }, func(p *api.Plan) { p.Entry = 100 }, func(p *api.Plan) { p.Entry = math.MaxInt }, func(p *api.Plan) { p.Code = nil },
		func(p *api.Plan) { p.Exports[0].Ord = 0 }, func(p *api.Plan) { p.Exports[0].Ord = 65 }, func(p *api.Plan) { p.Exports[0].Ord = -1 }, func(p *api.Plan) { p.Exports[0].Ord = 5 }, func(p *api.Plan) { p.Exports[0].Name = "Alpha" },
		func(p *api.Plan) { p.Exports[0].Name = "#a" }, func(p *api.Plan) { p.Exports[0].Name = "a b" }, func(p *api.Plan) { p.Exports[0].Name = strings.Repeat("n", 61) }, func(p *api.Plan) { p.Exports[0].At = 100 }, func(p *api.Plan) { p.Exports[0].At = -1 },
		func(p *api.Plan) { p.Exports[1].At = 1 }, func(p *api.Plan) { p.Exports[1].Forward = "b" }, func(p *api.Plan) { p.Exports[1].Forward = "b.#65536" }, func(p *api.Plan) { p.Exports[1].Forward = " .f" },
		func(p *api.Plan) { p.Exports[1].Forward = strings.Repeat("d", 40) + "." + strings.Repeat("s", 24) },
		func(p *api.Plan) { p.Imports[0].Dll = "" }, func(p *api.Plan) { p.Imports[0].Dll = "a/b" }, func(p *api.Plan) { p.Imports[0].Syms = nil }, func(p *api.Plan) { p.Delays[0].Dll = strings.Repeat("d", 41) }, func(p *api.Plan) { p.Delays[1].Syms = nil },
		func(p *api.Plan) { p.Imports = syms(api.Sym{}) }, func(p *api.Plan) { p.Imports = syms(api.Sym{Name: "#1"}) }, func(p *api.Plan) { p.Imports = syms(api.Sym{Name: "a", Ord: 1}) }, func(p *api.Plan) { p.Imports = syms(api.Sym{Name: "a", ByOrd: true}) },
		func(p *api.Plan) { p.Imports = syms(api.Sym{Ord: 65536, ByOrd: true}) }, func(p *api.Plan) { p.Imports = syms(api.Sym{Ord: -1, ByOrd: true}) }, func(p *api.Plan) { p.Delays = syms(api.Sym{Name: "a\x00"}) }, func(p *api.Plan) { p.Delays = syms(api.Sym{Ord: 1}) },
		func(p *api.Plan) { p.Rels[0].Kind = 0 }, func(p *api.Plan) { p.Rels[0].Kind = 1 }, func(p *api.Plan) { p.Rels[0].At = 53 }, func(p *api.Plan) { p.Rels[0].At = -1 }, func(p *api.Plan) { p.Rels[0].At = math.MaxInt }, func(p *api.Plan) { p.Rels[0].At = math.MinInt },
		func(p *api.Plan) { p.Rels[1].At = 97 }, func(p *api.Plan) { p.Rels[1].At = 15 }, func(p *api.Plan) { p.Rels[4].At = 8 }, func(p *api.Plan) { p.Rels[4].At = 1 }, func(p *api.Plan) { p.Rels[3].At = 59 }, func(p *api.Plan) { p.Rels[3].At = 49 },
		func(p *api.Plan) { p.Tls = false }, func(p *api.Plan) { p.Calls[0] = 100 }, func(p *api.Plan) { p.Calls[3] = -1 }, func(p *api.Plan) { p.Bounds[0].Stamp = 0 }, func(p *api.Plan) { p.Bounds[0].Stamp = -1 }, func(p *api.Plan) { p.Bounds[1].Stamp = 1 << 32 }, func(p *api.Plan) { p.Bounds[1].Dll = "" },
	} {
		p := full()
		change(&p)
		if forge.Ok(p) {
			t.Error(i)
		}
		if b, e := forge.Write(p); e != api.ErrArg || b != nil {
			t.Error(i, e)
		}
		at, ok := forge.IatRVA(p, 0, 0)
		if forge.DataRVA(p) != 0 || forge.IndexRVA(p) != 0 || at != 0 || ok {
			t.Error(i, "places")
		}
	}
	none := small()
	none.Code = nil
	if forge.Ok(none) {
		t.Error("no code")
	}
	call := small()
	call.Calls = []int{0}
	if forge.Ok(call) {
		t.Error("a call without TLS")
	}
	for at, want := range map[int]bool{-1: false, 0: true, 12: true, 13: false} {
		site := small()
		site.Code, site.Rels = make([]byte, 20), []api.PRel{{Kind: 10, At: at}}
		if forge.Ok(site) != want {
			t.Error("a site", at)
		}
	}
	if !forge.Ok(full()) || !forge.Ok(small()) || forge.Ok(api.Plan{}) {
		t.Error("plain ones")
	}
}

func TestOkTakes(t *testing.T) {
	for i, change := range []func(p *api.Plan){
		func(p *api.Plan) { p.Base = 65536 }, func(p *api.Plan) { p.Base = 1 << 45 }, func(p *api.Plan) { p.Stamp = 0 }, func(p *api.Plan) { p.Entry = math.MinInt }, func(p *api.Plan) { p.Entry = 0 },
		func(p *api.Plan) { p.Exports[0].Name = "" }, func(p *api.Plan) { p.Exports[0].Name = "alpha" }, func(p *api.Plan) { p.Exports[0].Ord = 1 }, func(p *api.Plan) { p.Exports[0].Ord = 64 },
		func(p *api.Plan) { p.Rels[1].At = 16 }, func(p *api.Plan) { p.Rels[0].At = 4 }, func(p *api.Plan) { p.Rels[3].InData = false; p.Rels[3].At = 20 }, func(p *api.Plan) { p.Calls = nil; p.Tls = false },
		func(p *api.Plan) { p.Imports[1] = p.Imports[0] },
	} {
		p := full()
		change(&p)
		if !forge.Ok(p) {
			t.Error(i)
			continue
		}
		same(t, p, read(t, p))
	}
}

func TestPlaces(t *testing.T) {
	p := full()
	if forge.TextRVA() != 4096 || forge.DataRVA(p) != 8192 || forge.DataRVA(small()) != 8192 {
		t.Error("text and data")
	}
	for _, x := range []struct {
		imp, sym int
		want     bool
	}{{0, 0, true}, {0, 2, true}, {0, 3, false}, {1, 0, true}, {1, 1, false}, {2, 1, true}, {2, 2, false}, {3, 0, true}, {3, 1, false}, {4, 0, false}, {-1, 0, false}, {0, -1, false}, {math.MaxInt, 0, false}, {0, math.MaxInt, false}, {math.MinInt, 0, false}, {0, math.MinInt, false}} {
		at, ok := forge.IatRVA(p, x.imp, x.sym)
		if ok != x.want || ok == (at == 0) {
			t.Error(x, at, ok)
		}
	}
	if _, ok := forge.IatRVA(small(), 0, 0); ok {
		t.Error("of no imports")
	}
}

// random makes a plan of any parts; r's numbers are the same in every run.
func random(r *rand.Rand) api.Plan {
	p := api.Plan{Base: uint64(1+r.Intn(1<<20)) << 16, Stamp: r.Intn(1 << 32), Dll: r.Intn(2) == 0, Entry: r.Intn(20) - 10, Code: make([]byte, 10+r.Intn(300)), Data: make([]byte, r.Intn(300)), Tls: r.Intn(2) == 0}
	r.Read(p.Code)
	r.Read(p.Data)
	for _, ord := range r.Perm(64)[:r.Intn(17)] {
		x := api.PExp{Ord: ord + 1, At: r.Intn(len(p.Code))}
		if r.Intn(2) == 0 {
			x.Name = "n" + strconv.Itoa(r.Intn(1000000)) + "_" + strconv.Itoa(ord)
		}
		if r.Intn(3) == 0 {
			x.At, x.Forward = 0, fold.Text("m"+strconv.Itoa(r.Intn(9)), sym(r))
		}
		p.Exports = append(p.Exports, x)
	}
	for range r.Intn(5) {
		p.Imports = append(p.Imports, imp(r))
	}
	for range r.Intn(5) {
		p.Delays = append(p.Delays, imp(r))
	}
	for range r.Intn(5) {
		p.Bounds = append(p.Bounds, api.Bound{Dll: "m" + strconv.Itoa(r.Intn(9)), Stamp: 1 + r.Intn(1<<31)})
	}
	for at := r.Intn(8); at+8 <= min(len(p.Code), len(p.Data)) && len(p.Rels) < 64; at += 8 + r.Intn(20) {
		p.Rels = append(p.Rels, api.PRel{Kind: []int{3, 10}[r.Intn(2)], InData: r.Intn(2) == 0, At: at})
	}
	r.Shuffle(len(p.Rels), func(i, k int) { p.Rels[i], p.Rels[k] = p.Rels[k], p.Rels[i] })
	if p.Tls {
		for range r.Intn(5) {
			p.Calls = append(p.Calls, r.Intn(len(p.Code)))
		}
	}
	return p
}

func sym(r *rand.Rand) api.Sym {
	if r.Intn(2) == 0 {
		return api.Sym{Ord: r.Intn(65536), ByOrd: true}
	}
	return api.Sym{Name: "s" + strconv.Itoa(r.Intn(1000000))}
}

func imp(r *rand.Rand) api.PImp {
	i := api.PImp{Dll: "M" + strconv.Itoa(r.Intn(9))}
	for range 1 + r.Intn(8) {
		i.Syms = append(i.Syms, sym(r))
	}
	return i
}

func TestManyPlans(t *testing.T) {
	r := rand.New(rand.NewSource(13))
	for i := range 400 {
		p := random(r)
		if !forge.Ok(p) {
			t.Fatalf("%d: %+v", i, p)
		}
		same(t, p, read(t, p))
		if t.Failed() {
			t.Fatalf("%d: %+v", i, p)
		}
	}
}
