package deps_test

import (
	"slices"
	"strconv"
	"strings"
	"testing"

	"slipway/api"
	"slipway/deps"
	"slipway/forge"
	"slipway/pe"
	"slipway/table"
)

// image needs modules by imports, or by forwards where a name begins with an arrow.
func image(t *testing.T, needs ...string) []byte {
	t.Helper()
	p := api.Plan{Base: 0x10000, Entry: -1, Code: []byte{0xC3}}
	for i, name := range needs {
		if to, is := strings.CutPrefix(name, ">"); is {
			p.Exports = append(p.Exports, api.PExp{Ord: i + 1, Forward: to + ".f"})
			continue
		}
		p.Imports = append(p.Imports, api.PImp{Dll: name, Syms: []api.Sym{{Name: "f"}}})
	}
	b, e := forge.Write(p)
	if e != api.OK {
		t.Fatal(e)
	}
	return b
}

// files makes files of lines as "a: b c".
func files(t *testing.T, lines ...string) []api.File {
	t.Helper()
	var l []api.File
	for _, line := range lines {
		name, needs, _ := strings.Cut(line, ":")
		l = append(l, api.File{Name: name, B: image(t, strings.Fields(needs)...)})
	}
	return l
}

// names tells the keys of modules.
func names(l *table.Table, ids []int) string {
	var s []string
	for _, id := range ids {
		m, _ := l.Get(id)
		s = append(s, strings.TrimSuffix(m.Key, ".dll"))
	}
	return strings.Join(s, " ")
}

func TestFile(t *testing.T) {
	l := []api.File{{Name: "a b", B: []byte{0}}, {Name: "", B: []byte{0}}, {Name: "A", B: []byte{1}}, {Name: "a.dll", B: []byte{2}}, {Name: "x.exe", B: []byte{3}}, {Name: strings.Repeat("n", 41), B: []byte{4}}}
	for name, want := range map[string]byte{"a": 1, "A.DLL": 1, "a.dll": 1, "X.exe": 3} {
		f, ok := deps.File(l, name)
		if !ok || len(f.B) != 1 || f.B[0] != want {
			t.Error(name, f, ok)
		}
	}
	if f, _ := deps.File(l, "a.dll"); f.Name != "A" {
		t.Error(f.Name)
	}
	for _, name := range []string{"x", "b", "", "a b", strings.Repeat("n", 41), "a.exe"} {
		if f, ok := deps.File(l, name); ok || f.Name != "" || f.B != nil {
			t.Errorf("%q", name)
		}
	}
	if _, ok := deps.File(nil, "a"); ok {
		t.Error("of none")
	}
}

func TestLoadTellsNeedsAhead(t *testing.T) {
	for _, x := range []struct {
		files      []string
		name, want string
	}{
		{[]string{"a: b", "b:"}, "a", "b a"},
		{[]string{"a: b c", "b: d", "c: d", "d:"}, "A.DLL", "d b c a"},
		{[]string{"a: c b", "b: d", "c: d", "d:"}, "a", "d c b a"},
		{[]string{"a: b", "b: c", "c: a"}, "a", "c b a"},
		{[]string{"a: b", "b: c", "c: a"}, "b", "a c b"},
		{[]string{"a: a", "b:"}, "a", "a"},
		{[]string{"a: >b c", "b:", "c: >d", "d:"}, "a", "d c b a"},
		{[]string{"a: B.DLL b >b", "b:", "c:"}, "a", "b a"},
		{[]string{"a: b", "b: c a", "c: b d", "d: a"}, "a", "d c b a"},
		{[]string{"a:", "A: b"}, "a", "a"},
	} {
		l := table.New()
		ids, e := deps.Load(l, files(t, x.files...), x.name)
		if e != api.OK || names(l, ids) != x.want {
			t.Errorf("%v: %v %q", x.files, e, names(l, ids))
		}
		if l.Count() != len(ids) {
			t.Error(x.files, "others are there", l.Count())
		}
		for _, id := range ids {
			m, _ := l.Get(id)
			if m.Handles != 0 || m.Attached || m.Base != 0 || m.Index != -1 {
				t.Error(m)
			}
		}
	}
}

func TestNumbersGoByMeeting(t *testing.T) {
	l := table.New()
	ids, _ := deps.Load(l, files(t, "a: b c", "b: d", "c:", "d:"), "a")
	// a is Added first, then b, d, c.
	if !slices.Equal(ids, []int{3, 2, 4, 1}) {
		t.Error(ids)
	}
}

func TestLoadOfWhatIsThere(t *testing.T) {
	l := table.New()
	f := files(t, "a: b", "b: c", "c:", "d: b")
	deps.Load(l, f, "b")
	for _, name := range []string{"b", "B.dll", "c"} {
		if ids, e := deps.Load(l, f, name); e != api.OK || len(ids) != 0 {
			t.Error(name, ids, e)
		}
	}
	if ids, e := deps.Load(l, nil, "b"); e != api.OK || len(ids) != 0 {
		t.Error("without files", ids, e)
	}
	if ids, e := deps.Load(l, f, "d"); e != api.OK || names(l, ids) != "d" {
		t.Error(names(l, ids), e)
	}
	if p, ok := l.Pe(1); !ok || len(pe.Needs(p)) != 1 {
		t.Error("the image")
	}
}

func TestLoadErrors(t *testing.T) {
	f := files(t, "a: b gone", "b: c", "c:", "bad: b", "e: c bad", "deep: a")
	f[3].B = f[3].B[:70]
	for name, want := range map[string]api.Errno{"gone": api.ErrNoModule, "": api.ErrNoModule, "a b": api.ErrNoModule, "a": api.ErrNoModule, "bad": api.ErrShort, "e": api.ErrShort, "deep": api.ErrNoModule} {
		l := table.New()
		deps.Load(l, f, "c")
		before := l.All()
		ids, e := deps.Load(l, f, name)
		if e != want || ids != nil || !slices.Equal(l.All(), before) {
			t.Errorf("%q: %v %v %v", name, e, ids, l.All())
		}
	}
	// A number that was dropped is not given again.
	l := table.New()
	deps.Load(l, f, "a")
	if ids, e := deps.Load(l, f, "c"); e != api.OK || ids[0] <= 3 {
		t.Error(ids, e)
	}
}

func TestTheMost(t *testing.T) {
	chain := func(n int) []api.File {
		var lines []string
		for i := range n {
			line := "m" + strconv.Itoa(i) + ":"
			if i < n-1 {
				line += " m" + strconv.Itoa(i+1)
			}
			lines = append(lines, line)
		}
		return files(t, lines...)
	}
	l := table.New()
	if ids, e := deps.Load(l, chain(32), "m0"); e != api.OK || len(ids) != 32 || ids[0] != 32 || ids[31] != 1 {
		t.Error(ids, e)
	}
	f := files(t, "x:", "y: m3")
	f[0].B[0] = 0
	if _, e := deps.Load(l, f, "x"); e != api.ErrMagic {
		t.Error("what is no image is told ahead of the table", e)
	}
	if _, e := deps.Load(l, f, "y"); e != api.ErrTable || l.Count() != 32 {
		t.Error(e)
	}
	l = table.New()
	if ids, e := deps.Load(l, chain(33), "m0"); e != api.ErrTable || ids != nil || l.Count() != 0 {
		t.Error(ids, e, l.All())
	}
}

func TestNeeded(t *testing.T) {
	l := table.New()
	f := files(t, "a: c >b gone", "b: a", "c: c", "d: b a")
	for _, x := range f {
		p, e := pe.Parse(x.B)
		if e != api.OK {
			t.Fatal(e)
		}
		l.Add(x.Name, p)
	}
	for id, want := range map[int][]int{1: {3, 2}, 2: {1}, 3: {3}, 4: {2, 1}, 5: nil, 0: nil, -1: nil} {
		if got := deps.Needed(l, id); !slices.Equal(got, want) {
			t.Error(id, got)
		}
	}
	l.Drop(2)
	if got := deps.Needed(l, 1); !slices.Equal(got, []int{3}) {
		t.Error(got)
	}
}

func TestStaysAndGoes(t *testing.T) {
	l := table.New()
	f := files(t, "a: b", "b: c", "c: a", "d: >c", "e:", "f: e", "g: g")
	for _, x := range f {
		p, _ := pe.Parse(x.B)
		l.Add(x.Name, p)
	}
	check := func(stays, goes []int) {
		t.Helper()
		if s, g := deps.Stays(l), deps.Goes(l); !slices.Equal(s, stays) || !slices.Equal(g, goes) {
			t.Error(s, g)
		}
	}
	check(nil, []int{1, 2, 3, 4, 5, 6, 7})
	l.Handle(6, 1)
	check([]int{5, 6}, []int{1, 2, 3, 4, 7})
	l.Handle(4, 2)
	check([]int{1, 2, 3, 4, 5, 6}, []int{7})
	l.Handle(6, -1)
	check([]int{1, 2, 3, 4}, []int{5, 6, 7})
	l.Handle(7, 1)
	l.Handle(4, -2)
	l.Handle(2, 1)
	check([]int{1, 2, 3, 7}, []int{4, 5, 6})
	l.Drop(3)
	check([]int{2, 7}, []int{1, 4, 5, 6})
	if s, g := deps.Stays(table.New()), deps.Goes(table.New()); len(s)+len(g) != 0 {
		t.Error(s, g)
	}
}

func TestFilesAreNotChanged(t *testing.T) {
	f := files(t, "a: b", "b:")
	before := [2]string{string(f[0].B), string(f[1].B)}
	l := table.New()
	deps.Load(l, f, "a")
	deps.File(f, "b")
	if before != [2]string{string(f[0].B), string(f[1].B)} || f[0].Name != "a" || f[1].Name != "b" {
		t.Error("what was handed in is changed")
	}
}
