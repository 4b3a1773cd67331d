package pe_test

import (
	"reflect"
	"slices"
	"testing"

	"slipway/api"
	"slipway/le"
	"slipway/pe"
)

// The tests' image: a head at 64, one section of a page from 4,096 on that stands at 512 in the file.
const (
	head  = 64
	text  = 4096
	base  = 0x7FFF0000
	whole = 512 + 4096
)

type edit struct {
	at, n int
	v     uint64
}

// at tells where the byte at rva stands in the file.
func at(rva int) int { return rva - text + 512 }

// dir is the place of a directory's numbers.
func dir(i int) int { return head + 136 + 8*i }

func image(edits ...edit) []byte {
	b := make([]byte, whole)
	copy(b, "MZ")
	copy(b[head:], "PE\x00\x00")
	put := func(l ...edit) {
		for _, x := range l {
			le.Put(b, x.at, x.n, x.v)
		}
	}
	put(edit{60, 4, head}, edit{head + 4, 2, 0x8664}, edit{head + 6, 2, 1}, edit{head + 8, 4, 77}, edit{head + 20, 2, 240}, edit{head + 22, 2, 0x2000}, edit{head + 24, 2, 0x20b},
		edit{head + 40, 4, text}, edit{head + 48, 8, base}, edit{head + 56, 4, 4096}, edit{head + 60, 4, 512}, edit{head + 80, 4, 8192}, edit{head + 84, 4, 512}, edit{head + 132, 4, 16},
		edit{head + 264 + 8, 4, 4096}, edit{head + 264 + 12, 4, text}, edit{head + 264 + 16, 4, 4096}, edit{head + 264 + 20, 4, 512}, edit{head + 264 + 36, 4, 0xE0000000})
	copy(b[head+264:], "all")
	for i, d := range map[int][2]uint64{0: {text + 0x100, 0x100}, 1: {text + 0x200, 40}, 5: {text + 0x300, 12}, 9: {text + 0x400, 40}, 11: {text + 0x500, 16}, 13: {text + 0x600, 64}} {
		put(edit{dir(i), 4, d[0]}, edit{dir(i) + 4, 4, d[1]})
	}
	// Exports: number 3 is a function, 4 a forward to X, named.
	put(edit{at(text+0x100) + 16, 4, 3}, edit{at(text+0x100) + 20, 4, 2}, edit{at(text+0x100) + 24, 4, 1}, edit{at(text+0x100) + 28, 4, text + 0x130}, edit{at(text+0x100) + 32, 4, text + 0x140}, edit{at(text+0x100) + 36, 4, text + 0x148},
		edit{at(text + 0x130), 4, text + 9}, edit{at(text + 0x134), 4, text + 0x150}, edit{at(text + 0x140), 4, text + 0x170}, edit{at(text + 0x148), 2, 1})
	copy(b[at(text+0x150):], "X.#2\x00")
	copy(b[at(text+0x170):], "fwd\x00")
	// Imports of B, delayed ones of C, and the bounds of B.
	put(edit{at(text + 0x200), 4, text + 0x240}, edit{at(text+0x200) + 4, 4, 5}, edit{at(text+0x200) + 12, 4, text + 0x280}, edit{at(text+0x200) + 16, 4, text + 0x260}, edit{at(text + 0x240), 8, 1<<63 | 9})
	put(edit{at(text + 0x600), 4, 1}, edit{at(text+0x600) + 4, 4, text + 0x290}, edit{at(text+0x600) + 8, 4, text + 0x6C0}, edit{at(text+0x600) + 12, 4, text + 0x260}, edit{at(text+0x600) + 16, 4, text + 0x240})
	put(edit{at(text + 0x500), 4, 6}, edit{at(text+0x500) + 4, 2, 0x20})
	copy(b[at(text+0x280):], "B\x00")
	copy(b[at(text+0x290):], "C.dll\x00")
	copy(b[at(text+0x520):], "B.DLL\x00")
	// A site, and the TLS directory with one call.
	put(edit{at(text + 0x300), 4, text}, edit{at(text+0x300) + 4, 4, 12}, edit{at(text+0x300) + 8, 2, 10<<12 | 0x700})
	put(edit{at(text+0x400) + 16, 8, base + text + 0x710}, edit{at(text+0x400) + 24, 8, base + text + 0x440}, edit{at(text + 0x440), 8, base + text + 3})
	put(edits...)
	return b
}

func TestParseTellsAllOfIt(t *testing.T) {
	b := image()
	p, e := pe.Parse(b)
	if e != api.OK {
		t.Fatal(e)
	}
	if p.Head.Base != base || p.Head.Stamp != 77 || p.Head.Chars != 0x2000 || p.Head.Entry != text || len(p.Head.Sects) != 1 {
		t.Errorf("%+v", p.Head)
	}
	if len(p.Img) != 8192 || !slices.Equal(p.Img[:512], b[:512]) || !slices.Equal(p.Img[text:], b[512:]) {
		t.Error("Img")
	}
	if want := (api.Exports{Base: 3, Funcs: []api.Func{{RVA: text + 9}, {Forward: "X.#2"}}, Names: []api.Named{{Name: "fwd", Index: 1}}}); !reflect.DeepEqual(p.Exports, want) {
		t.Errorf("%+v", p.Exports)
	}
	syms := []api.Sym{{Ord: 9, ByOrd: true}}
	if want := []api.Imp{{Dll: "B", Iat: text + 0x260, Stamp: 5, Syms: syms}}; !reflect.DeepEqual(p.Imps, want) {
		t.Errorf("%+v", p.Imps)
	}
	if want := []api.Imp{{Dll: "C.dll", Iat: text + 0x260, Handle: text + 0x6C0, Syms: syms}}; !reflect.DeepEqual(p.Delays, want) {
		t.Errorf("%+v", p.Delays)
	}
	if want := []api.Bound{{Dll: "B.DLL", Stamp: 6}}; !reflect.DeepEqual(p.Bounds, want) {
		t.Errorf("%+v", p.Bounds)
	}
	if want := []api.Rel{{Kind: 10, RVA: text + 0x700}}; !reflect.DeepEqual(p.Rels, want) {
		t.Errorf("%+v", p.Rels)
	}
	if want := (api.Tls{Is: true, Index: text + 0x710, Calls: []int{text + 3}}); !reflect.DeepEqual(p.Tls, want) {
		t.Errorf("%+v", p.Tls)
	}
	b[512]++
	if p.Img[text] == b[512] {
		t.Error("the image is the file's own memory")
	}
}

// wrong makes an error of one part each, in the order in which they are asked.
var wrong = []struct {
	edit edit
	e    api.Errno
}{
	{edit{0, 1, 0}, api.ErrMagic}, {edit{head + 40, 4, 8192}, api.ErrOpt}, {edit{dir(0) + 4, 4, 39}, api.ErrExport}, {edit{dir(1), 4, 8191}, api.ErrImport}, {edit{dir(5) + 4, 4, 11}, api.ErrReloc},
	{edit{dir(9), 4, 8190}, api.ErrTls}, {edit{dir(11), 4, 8189}, api.ErrDir}, {edit{dir(13), 4, 8188}, api.ErrImport},
}

func TestParseTellsTheFirstError(t *testing.T) {
	for i, a := range wrong {
		for _, b := range wrong[i:] {
			if p, e := pe.Parse(image(a.edit, b.edit)); e != a.e || !reflect.DeepEqual(p, api.Pe{}) {
				t.Error(a, b, e)
			}
		}
	}
	for n := 0; n < whole; n += 97 {
		if _, e := pe.Parse(image()[:n]); e == api.OK {
			t.Error(n)
		}
	}
}

func TestParseOfNoDirectories(t *testing.T) {
	var none []edit
	for i := range 16 {
		none = append(none, edit{dir(i), 4, 0})
	}
	p, e := pe.Parse(image(none...))
	if e != api.OK || len(p.Exports.Funcs)+len(p.Imps)+len(p.Delays)+len(p.Bounds)+len(p.Rels)+len(p.Tls.Calls) != 0 || p.Tls.Is {
		t.Error(e, p.Imps)
	}
	// Other directories are not asked.
	var others []edit
	for _, i := range []int{2, 3, 4, 6, 7, 8, 10, 12, 14, 15} {
		others = append(others, edit{dir(i), 4, 0xFFFFFFFF}, edit{dir(i) + 4, 4, 0xFFFFFFFF})
	}
	if _, e := pe.Parse(image(others...)); e != api.OK {
		t.Error(e)
	}
	// The TLS directory goes by the head's base.
	if _, e := pe.Parse(image(edit{head + 48, 8, base + 65536})); e != api.ErrTls {
		t.Error(e)
	}
}

func TestNeeds(t *testing.T) {
	p := api.Pe{
		Imps:    []api.Imp{{Dll: "B.DLL"}, {Dll: "a"}, {Dll: "b"}, {Dll: "x.exe"}},
		Delays:  []api.Imp{{Dll: "late"}},
		Bounds:  []api.Bound{{Dll: "bound"}},
		Exports: api.Exports{Funcs: []api.Func{{RVA: 5}, {Forward: "Z.f"}, {Forward: "A.dll.#3"}, {Forward: "z.dll.g"}, {}, {Forward: "M.x.g"}}},
	}
	if l := pe.Needs(p); !slices.Equal(l, []string{"b.dll", "a.dll", "x.exe", "z.dll", "m.x"}) {
		t.Error(l)
	}
	q, _ := pe.Parse(image())
	if l := pe.Needs(q); !slices.Equal(l, []string{"b.dll", "x.dll"}) {
		t.Error(l)
	}
	if len(pe.Needs(api.Pe{})) != 0 {
		t.Error("of none")
	}
	if l := pe.Needs(api.Pe{Exports: api.Exports{Funcs: []api.Func{{Forward: "no forward"}, {Forward: "."}}}}); len(l) != 0 {
		t.Error(l)
	}
}

func TestSame(t *testing.T) {
	whole := func() api.Pe {
		p, _ := pe.Parse(image())
		return p
	}
	if !pe.Same(whole(), whole()) || !pe.Same(api.Pe{}, api.Pe{}) || pe.Same(whole(), api.Pe{}) {
		t.Fatal("the same")
	}
	empty := api.Pe{Head: api.Head{Sects: []api.Sect{}}, Img: []byte{}, Exports: api.Exports{Funcs: []api.Func{}, Names: []api.Named{}}, Imps: []api.Imp{}, Delays: []api.Imp{}, Bounds: []api.Bound{}, Rels: []api.Rel{}, Tls: api.Tls{Calls: []int{}}}
	if !pe.Same(empty, api.Pe{}) || !pe.Same(api.Pe{}, empty) {
		t.Error("nil and empty")
	}
	a, b := api.Pe{Imps: []api.Imp{{Dll: "a"}}}, api.Pe{Imps: []api.Imp{{Dll: "a", Syms: []api.Sym{}}}}
	if !pe.Same(a, b) || !pe.Same(b, a) {
		t.Error("nil and empty, within")
	}
	for i, change := range []func(p *api.Pe){
		func(p *api.Pe) { p.Head.Base++ }, func(p *api.Pe) { p.Head.Stamp++ }, func(p *api.Pe) { p.Head.Chars++ }, func(p *api.Pe) { p.Head.Entry++ }, func(p *api.Pe) { p.Head.Size++ }, func(p *api.Pe) { p.Head.Headers++ },
		func(p *api.Pe) { p.Head.Dirs[15].Size++ }, func(p *api.Pe) { p.Head.Dirs[2].RVA++ }, func(p *api.Pe) { p.Head.Sects[0].Name = "x" }, func(p *api.Pe) { p.Head.Sects[0].Chars++ }, func(p *api.Pe) { p.Head.Sects = nil },
		func(p *api.Pe) { p.Img[100]++ }, func(p *api.Pe) { p.Img = p.Img[:8191] }, func(p *api.Pe) { p.Exports.Base++ }, func(p *api.Pe) { p.Exports.Funcs[1].Forward = "y.f" }, func(p *api.Pe) { p.Exports.Funcs[0].RVA++ },
		func(p *api.Pe) { p.Exports.Names[0].Index = 0 }, func(p *api.Pe) { p.Exports.Names = nil }, func(p *api.Pe) { p.Imps[0].Dll = "b" }, func(p *api.Pe) { p.Imps[0].Iat++ }, func(p *api.Pe) { p.Imps[0].Stamp++ },
		func(p *api.Pe) { p.Imps[0].Handle++ }, func(p *api.Pe) { p.Imps[0].Syms[0].Ord++ }, func(p *api.Pe) { p.Imps = nil }, func(p *api.Pe) { p.Delays[0].Handle++ }, func(p *api.Pe) { p.Delays[0].Syms = nil }, func(p *api.Pe) { p.Delays = nil },
		func(p *api.Pe) { p.Bounds[0].Stamp++ }, func(p *api.Pe) { p.Bounds = nil }, func(p *api.Pe) { p.Rels[0].Kind = 3 }, func(p *api.Pe) { p.Rels = nil }, func(p *api.Pe) { p.Tls.Is = false }, func(p *api.Pe) { p.Tls.Index++ }, func(p *api.Pe) { p.Tls.Calls[0]++ },
		func(p *api.Pe) { p.Tls.Calls = append(p.Tls.Calls, 1) },
	} {
		p := whole()
		change(&p)
		if pe.Same(p, whole()) || pe.Same(whole(), p) || !pe.Same(p, p) {
			t.Error(i)
		}
	}
}

func FuzzParse(f *testing.F) {
	f.Add(image())
	f.Fuzz(func(t *testing.T, b []byte) {
		p, e := pe.Parse(b)
		if e != api.OK && !reflect.DeepEqual(p, api.Pe{}) || e == api.OK && len(p.Img) != p.Head.Size {
			t.Error(e)
		}
	})
}
