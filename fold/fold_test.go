package fold_test

import (
	"strconv"
	"strings"
	"testing"

	"slipway/api"
	"slipway/fold"
)

func TestOkAsksEachByte(t *testing.T) {
	const letters = "abcdefghijklmnopqrstuvwxyzABCDEFGHIJKLMNOPQRSTUVWXYZ0123456789._-"
	for c := 0; c < 256; c++ {
		want := strings.IndexByte(letters, byte(c)) >= 0
		for _, name := range []string{string([]byte{byte(c)}), "a" + string([]byte{byte(c)}) + "b"} {
			if fold.Ok(name) != want {
				t.Errorf("%q", name)
			}
		}
	}
}

func TestOkAsksTheLength(t *testing.T) {
	for n := 0; n <= 50; n++ {
		if fold.Ok(strings.Repeat("x", n)) != (n >= 1 && n <= 40) {
			t.Error(n)
		}
	}
	if !fold.Ok(".") || !fold.Ok("A-b_c.DLL") || fold.Ok("ä") || fold.Ok("a b") || fold.Ok("a/b") {
		t.Error("names")
	}
}

func TestKey(t *testing.T) {
	for name, want := range map[string]string{
		"a": "a.dll", "A": "a.dll", "A.DLL": "a.dll", "a.Exe": "a.exe", "x.": "x.", ".": ".", "Z_-9": "z_-9.dll", "AZaz": "azaz.dll",
		"": ".dll", "a.b.C": "a.b.c", "@[`{": "@[`{.dll",
	} {
		if k := fold.Key(name); k != want {
			t.Errorf("%q: %q", name, k)
		}
		if fold.Key(want) != want {
			t.Error("a key's key", want)
		}
	}
}

func TestANameInAnyLettersIsOneName(t *testing.T) {
	for _, x := range []struct {
		a, b string
		want bool
	}{
		{"a", "A.dLL", true}, {"Kernel32", "kERNEL32.dll", true}, {"a.dll", "a.exe", false}, {"a", "b", false},
		{"a.", "a", false}, {"a_b", "a-b", false}, {"", ".dll", true},
	} {
		if fold.Same(x.a, x.b) != x.want || fold.Same(x.b, x.a) != x.want || !fold.Same(x.a, x.a) {
			t.Error(x)
		}
	}
}

func TestSymOk(t *testing.T) {
	for c := 0; c < 256; c++ {
		one := string([]byte{byte(c)})
		in := c >= 33 && c <= 126
		if fold.SymOk("a"+one) != in || fold.SymOk(one) != (in && c != '#') {
			t.Error(c)
		}
	}
	for n := 0; n <= 70; n++ {
		if fold.SymOk(strings.Repeat("s", n)) != (n >= 1 && n <= 60) {
			t.Error(n)
		}
	}
	if !fold.SymOk("?f@@YAXXZ") || !fold.SymOk("a.b") || !fold.SymOk("a#1") || fold.SymOk("#1") || fold.SymOk("\u00e9") {
		t.Error("symbols")
	}
}

func TestSplit(t *testing.T) {
	long := strings.Repeat("d", 40)
	sym := strings.Repeat("s", 60)
	for _, x := range []struct {
		text, dll string
		s         api.Sym
	}{
		{"b.f", "b", api.Sym{Name: "f"}}, {"b.dll.f", "b.dll", api.Sym{Name: "f"}}, {"B.#0", "B", api.Sym{ByOrd: true}},
		{"b.#7", "b", api.Sym{Ord: 7, ByOrd: true}}, {"b.#65535", "b", api.Sym{Ord: 65535, ByOrd: true}}, {"b.#10", "b", api.Sym{Ord: 10, ByOrd: true}},
		{"..f", ".", api.Sym{Name: "f"}}, {long + "." + sym, long, api.Sym{Name: sym}}, {"b.f#1", "b", api.Sym{Name: "f#1"}}, {"b.7", "b", api.Sym{Name: "7"}},
	} {
		dll, s, ok := fold.Split(x.text)
		if !ok || dll != x.dll || s != x.s {
			t.Errorf("%q: %q %v %v", x.text, dll, s, ok)
		}
		if back := fold.Text(dll, s); back != x.text {
			t.Errorf("%q: back %q", x.text, back)
		}
	}
}

func TestSplitRefuses(t *testing.T) {
	for _, text := range []string{
		"", ".", "b", "b.", ".f", "b f.f", "b.f g", "b.#", "b.#x", "b.#01", "b.#00", "b.#65536", "b.#-1", "b.#+1", "b.#1x", "b.#99999", "b.#100000",
		"b.#18446744073709551617", "b.##1", "b.\x7f", "b.\x00", "\u00e9.f", strings.Repeat("d", 41) + ".f", "b." + strings.Repeat("s", 61), "b.#1 ", "b.# 1",
	} {
		if dll, s, ok := fold.Split(text); ok || dll != "" || s != (api.Sym{}) {
			t.Errorf("%q: %q %v %v", text, dll, s, ok)
		}
	}
}

func TestEveryOrdinalGoesThereAndBack(t *testing.T) {
	for n := 0; n <= 65540; n++ {
		text := "m.dll.#" + strconv.Itoa(n)
		dll, s, ok := fold.Split(text)
		if ok != (n <= 65535) {
			t.Fatal(n)
		}
		if ok && (s.Ord != n || !s.ByOrd || s.Name != "" || fold.Text(dll, s) != text) {
			t.Fatal(n, s)
		}
	}
}
