package table_test

import (
	"math"
	"reflect"
	"slices"
	"strconv"
	"testing"

	"slipway/api"
	"slipway/pe"
	"slipway/table"
)

func add(t *testing.T, l *table.Table, name string) int {
	t.Helper()
	id, e := l.Add(name, api.Pe{})
	if e != api.OK {
		t.Fatal(name, e)
	}
	return id
}

func TestNumbersAreNeverGivenTwice(t *testing.T) {
	l := table.New()
	if add(t, l, "a") != 1 || add(t, l, "B.DLL") != 2 || add(t, l, "c.exe") != 3 {
		t.Error(l.All())
	}
	if !l.Drop(3) || !l.Drop(1) || add(t, l, "a") != 4 || add(t, l, "c.exe") != 5 {
		t.Error(l.All())
	}
	if !slices.Equal(l.All(), []int{2, 4, 5}) || l.Count() != 3 {
		t.Error(l.All(), l.Count())
	}
}

func TestAModuleIsThereOnce(t *testing.T) {
	l := table.New()
	add(t, l, "Kernel")
	for _, name := range []string{"kernel", "KERNEL.DLL", "kernel.dll", "Kernel"} {
		if id, e := l.Add(name, api.Pe{}); e != api.ErrExists || id != 0 {
			t.Error(name, id, e)
		}
		if id, ok := l.Find(name); !ok || id != 1 {
			t.Error(name, id, ok)
		}
	}
	for _, name := range []string{"kernel.exe", "kernel.", "kerne", ""} {
		if id, ok := l.Find(name); ok || id != 0 {
			t.Error(name, id)
		}
	}
	if add(t, l, "kernel.exe") != 2 {
		t.Error("another one")
	}
	l.Drop(1)
	if _, ok := l.Find("kernel"); ok {
		t.Error("dropped")
	}
	if add(t, l, "KERNEL") != 3 {
		t.Error("again")
	}
}

func TestTheMost(t *testing.T) {
	l := table.New()
	for i := range 32 {
		add(t, l, "m"+strconv.Itoa(i))
	}
	if id, e := l.Add("more", api.Pe{}); e != api.ErrTable || id != 0 {
		t.Error(id, e)
	}
	if _, e := l.Add("M5", api.Pe{}); e != api.ErrExists {
		t.Error("that it is there comes first", e)
	}
	if l.Count() != 32 || len(l.All()) != 32 {
		t.Error(l.Count())
	}
	l.Drop(7)
	if add(t, l, "more") != 33 || l.Count() != 32 {
		t.Error(l.All())
	}
}

func TestGet(t *testing.T) {
	l := table.New()
	id := add(t, l, "A")
	m, ok := l.Get(id)
	if want := (api.Module{ID: 1, Key: "a.dll", Index: -1}); !ok || m != want {
		t.Error(m, ok)
	}
	if !l.SetBase(id, 1<<40) || !l.SetIndex(id, 5) || !l.SetAttached(id, true) {
		t.Error("sets")
	}
	l.Handle(id, 3)
	m, ok = l.Get(id)
	if want := (api.Module{ID: 1, Key: "a.dll", Base: 1 << 40, Handles: 3, Index: 5, Attached: true}); !ok || m != want {
		t.Error(m, ok)
	}
}

func TestOfNone(t *testing.T) {
	l := table.New()
	add(t, l, "a")
	add(t, l, "b")
	l.Drop(2)
	for _, id := range []int{0, 2, 3, -1, math.MinInt, math.MaxInt} {
		m, a := l.Get(id)
		p, b := l.Pe(id)
		n, c := l.Handle(id, 1)
		if a || b || c || n != 0 || m != (api.Module{}) || !reflect.DeepEqual(p, api.Pe{}) {
			t.Error(id, m, n)
		}
		if l.SetBase(id, 1) || l.SetIndex(id, 1) || l.Drop(id) || l.SetAttached(id, true) || l.SetAttached(id, false) {
			t.Error(id)
		}
	}
	if m, _ := l.Get(1); m != (api.Module{ID: 1, Key: "a.dll", Index: -1}) || l.Count() != 1 || len(l.Attached()) != 0 {
		t.Error(m)
	}
}

func TestHandles(t *testing.T) {
	l := table.New()
	id := add(t, l, "a")
	for _, x := range [][2]int{{1, 1}, {0, 1}, {4, 5}, {-2, 3}, {-9, 0}, {-1, 0}, {math.MinInt, 0}, {7, 7}, {math.MinInt, 0}, {math.MaxInt, math.MaxInt}, {1, math.MaxInt}, {math.MaxInt, math.MaxInt}, {-1, math.MaxInt - 1}, {2, math.MaxInt}, {-math.MaxInt, 0}} {
		if n, ok := l.Handle(id, x[0]); !ok || n != x[1] {
			t.Error(x, n)
		}
		if m, _ := l.Get(id); m.Handles != x[1] {
			t.Error(x, m)
		}
	}
}

func TestAttached(t *testing.T) {
	l := table.New()
	for _, name := range []string{"a", "b", "c", "d"} {
		add(t, l, name)
	}
	for _, id := range []int{3, 1, 4, 3, 1} {
		if !l.SetAttached(id, true) {
			t.Error(id)
		}
	}
	if !slices.Equal(l.Attached(), []int{3, 1, 4}) {
		t.Error(l.Attached())
	}
	l.SetAttached(1, false)
	l.SetAttached(2, false)
	if !slices.Equal(l.Attached(), []int{3, 4}) {
		t.Error(l.Attached())
	}
	l.SetAttached(1, true)
	l.SetAttached(2, true)
	l.Drop(4)
	if !slices.Equal(l.Attached(), []int{3, 1, 2}) {
		t.Error(l.Attached())
	}
	for id, want := range map[int]bool{1: true, 2: true, 3: true} {
		if m, _ := l.Get(id); m.Attached != want {
			t.Error(m)
		}
	}
	k := l.Attached()
	k[0] = 99
	if l.Attached()[0] != 3 {
		t.Error("the list is the table's own")
	}
	add(t, l, "d")
	if slices.Contains(l.Attached(), 5) {
		t.Error("attached from the beginning")
	}
}

func whole() api.Pe {
	return api.Pe{
		Head: api.Head{Base: 5, Sects: []api.Sect{{Name: "s"}}}, Img: []byte{1, 2, 3},
		Exports: api.Exports{Funcs: []api.Func{{RVA: 1}}, Names: []api.Named{{Name: "n"}}},
		Imps:    []api.Imp{{Dll: "i", Syms: []api.Sym{{Name: "x"}}}}, Delays: []api.Imp{{Dll: "d", Syms: []api.Sym{{Name: "y"}}}},
		Bounds: []api.Bound{{Dll: "b", Stamp: 1}}, Rels: []api.Rel{{Kind: 3, RVA: 8}}, Tls: api.Tls{Is: true, Index: 4, Calls: []int{7}},
	}
}

// spoil changes all that p's lists lead to.
func spoil(p api.Pe) {
	p.Head.Sects[0].Name = "z"
	p.Img[0] = 99
	p.Exports.Funcs[0].RVA = 99
	p.Exports.Names[0].Name = "z"
	p.Imps[0].Dll = "z"
	p.Imps[0].Syms[0].Name = "z"
	p.Delays[0].Dll = "z"
	p.Delays[0].Syms[0].Name = "z"
	p.Bounds[0].Stamp = 99
	p.Rels[0].RVA = 99
	p.Tls.Calls[0] = 99
}

func TestImagesAreApart(t *testing.T) {
	l := table.New()
	p := whole()
	syms := p.Imps[0].Syms
	id, _ := l.Add("a", p)
	spoil(p)
	syms[0].Name = "z"
	q, ok := l.Pe(id)
	if !ok || !pe.Same(q, whole()) {
		t.Errorf("what was handed in is kept: %+v", q)
	}
	spoil(q)
	if q, _ := l.Pe(id); !pe.Same(q, whole()) {
		t.Errorf("what was answered is kept: %+v", q)
	}
	a := l.All()
	a[0] = 99
	if l.All()[0] != id {
		t.Error("the list is the table's own")
	}
}
