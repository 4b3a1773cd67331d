package sect_test

import (
	"bytes"
	"math"
	"reflect"
	"testing"

	"slipway/api"
	"slipway/sect"
)

// head has two sections; the second is all noughts behind 512 bytes of the file.
func head() api.Head {
	return api.Head{Size: 5 * 4096, Headers: 1024, Sects: []api.Sect{
		{Name: "a", VSize: 4097, RVA: 4096, Raw: 1024, At: 1024, Chars: 0x60000020},
		{Name: "b", VSize: 2, RVA: 12288, Raw: 512, At: 2048, Chars: 0xC0000040},
		{Name: "c", VSize: 1, RVA: 16384, Raw: 0, At: 7, Chars: 0x40000040}}}
}

func TestOf(t *testing.T) {
	h := head()
	for _, x := range []struct {
		rva, want int
		ok        bool
	}{
		{0, 0, false}, {4095, 0, false}, {-1, 0, false}, {4096, 0, true}, {4096 + 4097, 0, true}, {12287, 0, true}, {12288, 1, true}, {12290, 1, true}, {16383, 1, true},
		{16384, 2, true}, {20479, 2, true}, {20480, 0, false}, {math.MaxInt, 0, false}, {math.MinInt, 0, false},
	} {
		if i, ok := sect.Of(h, x.rva); i != x.want || ok != x.ok {
			t.Error(x, i, ok)
		}
	}
	if i, ok := sect.Of(api.Head{}, 0); ok || i != 0 {
		t.Error("no sections")
	}
}

func TestOffset(t *testing.T) {
	h := head()
	for _, x := range []struct {
		rva, want int
		ok        bool
	}{
		{0, 0, true}, {1023, 1023, true}, {1024, 0, false}, {4095, 0, false}, {-1, 0, false}, {4096, 1024, true}, {4097, 1025, true}, {4096 + 1023, 2047, true},
		{4096 + 1024, 0, false}, {12287, 0, false}, {12288, 2048, true}, {12288 + 511, 2559, true}, {12288 + 512, 0, false}, {16384, 0, false}, {20480, 0, false},
		{math.MaxInt, 0, false}, {math.MinInt, 0, false},
	} {
		if at, ok := sect.Offset(h, x.rva); at != x.want || ok != x.ok {
			t.Error(x, at, ok)
		}
	}
}

func TestProt(t *testing.T) {
	for chars, want := range map[int]int{
		0: 0, 0x60000000: 5, 0x60000020: 5, 0xC0000040: 3, 0x40000000: 1, 0x80000000: 2, 0x20000000: 4, 0xE0000000: 7, 0x1FFFFFFF: 0, 0xFFFFFFFF: 7, -1: 7, 1 << 32: 0,
	} {
		if p := sect.Prot(chars); p != want {
			t.Errorf("%x: %d", chars, p)
		}
	}
}

func TestProtAt(t *testing.T) {
	h := head()
	for rva, want := range map[int]int{0: 1, 1024: 1, 4095: 1, 4096: 5, 8192: 5, 12287: 5, 12288: 3, 16383: 3, 16384: 1, 20479: 1, 20480: 0, -1: 0, math.MinInt: 0, math.MaxInt: 0} {
		if p := sect.ProtAt(h, rva); p != want {
			t.Error(rva, p)
		}
	}
	h.Sects[0].Chars = 0
	if p := sect.ProtAt(h, 4096); p != 0 {
		t.Error("a section without any", p)
	}
	if p := sect.ProtAt(api.Head{}, 0); p != 0 {
		t.Error("no head", p)
	}
}

// file has a byte of its own at each place, never 0.
func file(n int) []byte {
	b := make([]byte, n)
	for i := range b {
		b[i] = byte(1 + i%251)
	}
	return b
}

func TestLayIsWhereTheHeadSays(t *testing.T) {
	h, b := head(), file(2560)
	img := sect.Lay(h, b)
	if len(img) != h.Size {
		t.Fatal(len(img))
	}
	for rva, c := range img {
		want := byte(0)
		if at, ok := sect.Offset(h, rva); ok {
			want = b[at]
		}
		if c != want {
			t.Fatal(rva, c, want)
		}
	}
	if !bytes.Equal(b, file(2560)) || !reflect.DeepEqual(h, head()) {
		t.Error("what was handed in is changed")
	}
}

func TestLayOfAShortFile(t *testing.T) {
	h := head()
	for _, n := range []int{0, 1, 1000, 1024, 1025, 2047, 2048, 2100} {
		b := file(n)
		img := sect.Lay(h, b)
		for rva, c := range img {
			want := byte(0)
			if at, ok := sect.Offset(h, rva); ok && at < n {
				want = b[at]
			}
			if c != want {
				t.Fatal(n, rva, c, want)
			}
		}
	}
}

func TestLayOfNoSize(t *testing.T) {
	for _, size := range []int{-1, math.MinInt, 64*4096 + 1, 65 * 4096, math.MaxInt} {
		h := head()
		h.Size = size
		if img := sect.Lay(h, file(3000)); len(img) != 0 {
			t.Error(size, len(img))
		}
	}
	for _, size := range []int{0, 1, 100, 5000, 64 * 4096} {
		h := head()
		h.Size = size
		img := sect.Lay(h, file(3000))
		if len(img) != size || size > 0 && img[0] != 1 {
			t.Error(size, len(img))
		}
	}
}

func TestHeadsOfAnyNumbers(t *testing.T) {
	odd := []int{math.MinInt, math.MinInt + 1, -1 << 62, -4096, -1, 0, 1, 4096, 8192, 1 << 40, 1 << 62, math.MaxInt - 1, math.MaxInt}
	b := file(9000)
	for _, rva := range odd {
		for _, n := range odd {
			for _, at := range odd {
				h := api.Head{Size: 8192, Headers: n, Sects: []api.Sect{{VSize: n, RVA: rva, Raw: n, At: at, Chars: 1 << 30}}}
				for _, q := range odd {
					if _, ok := sect.Of(h, q); ok && (q < rva || n < 1) {
						t.Fatal("Of", rva, n, q)
					}
					sect.Offset(h, q)
					sect.ProtAt(h, q)
				}
				if img := sect.Lay(h, b); len(img) != 8192 {
					t.Fatal("Lay")
				}
			}
		}
	}
}

func TestLayCutsWhatLiesOutside(t *testing.T) {
	b := file(600)
	h := api.Head{Size: 100, Sects: []api.Sect{{RVA: 90, Raw: 512, At: 50}, {RVA: 100, Raw: 512, At: 50}}}
	img := sect.Lay(h, b)
	if !bytes.Equal(img[:90], make([]byte, 90)) || !bytes.Equal(img[90:], b[50:60]) {
		t.Error(img)
	}
}
