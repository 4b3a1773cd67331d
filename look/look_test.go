package look_test

import (
	"slices"
	"strconv"
	"strings"
	"testing"

	"slipway/api"
	"slipway/look"
	"slipway/table"
)

// offers makes exports of "name=5" (an RVA), "name>dll.sym" (a forward) and "name=0" (a gap); numbers begin at 10.
func offers(line string) api.Pe {
	x := api.Exports{Base: 10}
	for i, word := range strings.Fields(line) {
		if name, to, is := strings.Cut(word, ">"); is {
			x.Funcs = append(x.Funcs, api.Func{Forward: to})
			x.Names = append(x.Names, api.Named{Name: name, Index: i})
			continue
		}
		name, rva, _ := strings.Cut(word, "=")
		n, _ := strconv.Atoi(rva)
		x.Funcs = append(x.Funcs, api.Func{RVA: n})
		x.Names = append(x.Names, api.Named{Name: name, Index: i})
	}
	return api.Pe{Exports: x}
}

// modules adds modules of "a: exports", each at 65,536 times its number in lines.
func modules(t *testing.T, lines ...string) *table.Table {
	t.Helper()
	l := table.New()
	for i, line := range lines {
		name, rest, _ := strings.Cut(line, ":")
		id, e := l.Add(name, offers(rest))
		if e != api.OK {
			t.Fatal(line)
		}
		l.SetBase(id, uint64(i+1)<<16)
	}
	return l
}

func name(s string) api.Sym { return api.Sym{Name: s} }
func ord(n int) api.Sym     { return api.Sym{Ord: n, ByOrd: true} }

type want struct {
	id   int
	s    api.Sym
	at   uint64
	e    api.Errno
	hops []api.Hop
}

func check(t *testing.T, l *table.Table, x want) {
	t.Helper()
	hops, e := look.Way(l, x.id, x.s)
	if e != x.e || !slices.Equal(hops, x.hops) {
		t.Errorf("Way(%d, %v) = %v, %v", x.id, x.s, hops, e)
	}
	if at, e := look.Find(l, x.id, x.s); e != x.e || at != x.at {
		t.Errorf("Find(%d, %v) = %x, %v", x.id, x.s, at, e)
	}
}

func TestWays(t *testing.T) {
	l := modules(t, "a: f=5 g>b.h k>B.DLL.#12 gap=0 gone>b.none lost>x.f gap2>b.gap", "b: h>c.i gap=0 last=77", "c: i>a.f o>a.#10 p>c.q q>c.p")
	for _, x := range []want{
		{1, name("f"), 0x10005, api.OK, []api.Hop{{ID: 1, Index: 0}}},
		{1, ord(10), 0x10005, api.OK, []api.Hop{{ID: 1, Index: 0}}},
		{1, name("g"), 0x10005, api.OK, []api.Hop{{ID: 1, Index: 1}, {ID: 2, Index: 0}, {ID: 3, Index: 0}, {ID: 1, Index: 0}}},
		{1, name("k"), 0x2004D, api.OK, []api.Hop{{ID: 1, Index: 2}, {ID: 2, Index: 2}}},
		{1, ord(12), 0x2004D, api.OK, []api.Hop{{ID: 1, Index: 2}, {ID: 2, Index: 2}}},
		{3, name("o"), 0x10005, api.OK, []api.Hop{{ID: 3, Index: 1}, {ID: 1, Index: 0}}},
		{1, name("gap"), 0, api.ErrNoExport, nil},
		{1, name("F"), 0, api.ErrNoExport, nil},
		{1, name(""), 0, api.ErrNoExport, nil},
		{1, ord(9), 0, api.ErrNoExport, nil},
		{1, ord(17), 0, api.ErrNoExport, nil},
		{1, name("gone"), 0, api.ErrNoExport, []api.Hop{{ID: 1, Index: 4}}},
		{1, name("gap2"), 0, api.ErrNoExport, []api.Hop{{ID: 1, Index: 6}}},
		{1, name("lost"), 0, api.ErrNoModule, []api.Hop{{ID: 1, Index: 5}}},
		{3, name("p"), 0, api.ErrCycle, []api.Hop{{ID: 3, Index: 2}, {ID: 3, Index: 3}}},
		{3, name("q"), 0, api.ErrCycle, []api.Hop{{ID: 3, Index: 3}, {ID: 3, Index: 2}}},
		{0, name("f"), 0, api.ErrNoModule, nil},
		{4, name("f"), 0, api.ErrNoModule, nil},
		{-1, ord(10), 0, api.ErrNoModule, nil},
	} {
		check(t, l, x)
	}
}

func TestCyclesAreOfFunctions(t *testing.T) {
	// One module twice on a way is no cycle, one function by a name and by a number is.
	l := modules(t, "a: f>b.f g>b.g h=9", "b: f>a.g g>a.h", "c: x>c.#10 y>c.x")
	check(t, l, want{1, name("f"), 0x10009, api.OK, []api.Hop{{ID: 1, Index: 0}, {ID: 2, Index: 0}, {ID: 1, Index: 1}, {ID: 2, Index: 1}, {ID: 1, Index: 2}}})
	check(t, l, want{3, name("x"), 0, api.ErrCycle, []api.Hop{{ID: 3, Index: 0}}})
	check(t, l, want{3, name("y"), 0, api.ErrCycle, []api.Hop{{ID: 3, Index: 1}, {ID: 3, Index: 0}}})
	l = modules(t, "a: f>b.f", "b: f>a.f")
	check(t, l, want{1, name("f"), 0, api.ErrCycle, []api.Hop{{ID: 1, Index: 0}, {ID: 2, Index: 0}}})
}

func TestItHangsOnNoOrder(t *testing.T) {
	lines := []string{"a: f>b.f x>c.x", "b: f>c.f", "c: f=64 x>a.f"}
	for _, order := range [][]int{{0, 1, 2}, {2, 1, 0}, {1, 0, 2}, {2, 0, 1}} {
		l := table.New()
		for _, i := range order {
			n, rest, _ := strings.Cut(lines[i], ":")
			id, _ := l.Add(n, offers(rest))
			l.SetBase(id, uint64(i+1)<<16)
		}
		a, _ := l.Find("a")
		for _, s := range []string{"f", "x"} {
			if at, e := look.Find(l, a, name(s)); e != api.OK || at != 0x30040 {
				t.Error(order, s, at, e)
			}
		}
	}
}

func TestALongWayEnds(t *testing.T) {
	l := table.New()
	const n = 32
	for i := range n {
		line := ""
		for k := range 16 {
			to, fn := i+1, k
			if to == n {
				to, fn = 0, k+1
			}
			line += " f" + strconv.Itoa(k) + ">m" + strconv.Itoa(to) + ".f" + strconv.Itoa(fn)
		}
		if _, e := l.Add("m"+strconv.Itoa(i), offers(line+" f16=3")); e != api.OK {
			t.Fatal(e)
		}
	}
	l.SetBase(1, 1<<20)
	hops, e := look.Way(l, 1, name("f0"))
	if e != api.OK || len(hops) != n*16+1 {
		t.Error(len(hops), e)
	}
	if at, e := look.Find(l, 1, name("f0")); e != api.OK || at != 1<<20+3 {
		t.Error(at, e)
	}
}

func TestBasesAreAsked(t *testing.T) {
	l := modules(t, "a: f>b.g", "b: g=16")
	for _, base := range []uint64{0, 1 << 40, 1<<64 - 16} {
		l.SetBase(2, base)
		if at, e := look.Find(l, 1, name("f")); e != api.OK || at != base+16 {
			t.Errorf("%x %v", at, e)
		}
	}
	l.Drop(2)
	check(t, l, want{1, name("f"), 0, api.ErrNoModule, []api.Hop{{ID: 1, Index: 0}}})
}

func TestForwardsThatAreNone(t *testing.T) {
	l := modules(t, "a: f>b g>.f h>#")
	for _, s := range []string{"f", "g", "h"} {
		if at, e := look.Find(l, 1, name(s)); e == api.OK || at != 0 {
			t.Error(s, at)
		}
	}
}
