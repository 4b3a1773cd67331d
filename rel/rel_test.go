package rel_test

import (
	"bytes"
	"math"
	"reflect"
	"testing"

	"slipway/api"
	"slipway/le"
	"slipway/rel"
)

const (
	dir   = 100
	whole = 12288
)

// block is a page with entries, each a kind and how far behind.
type block struct {
	page    int
	entries [][2]int
}

// image lays blocks at dir, and tells their directory.
func image(blocks ...block) ([]byte, api.Dir) {
	b := make([]byte, whole)
	at := dir
	for _, x := range blocks {
		le.Put(b, at, 4, uint64(x.page))
		le.Put(b, at+4, 4, uint64(8+2*len(x.entries)))
		for i, e := range x.entries {
			le.Put(b, at+8+2*i, 2, uint64(e[0]<<12|e[1]))
		}
		at += 8 + 2*len(x.entries)
	}
	return b, api.Dir{RVA: dir, Size: at - dir}
}

func TestParse(t *testing.T) {
	b, d := image(block{8192, [][2]int{{10, 8}, {3, 0}, {0, 77}, {0, 0}}}, block{4096, nil}, block{4096, [][2]int{{10, 4095}, {3, 4091}}}, block{0, [][2]int{{0, 5}, {0, 6}}})
	want := []api.Rel{{Kind: 10, RVA: 8200}, {Kind: 3, RVA: 8192}, {Kind: 10, RVA: 8191}, {Kind: 3, RVA: 8187}}
	// The site that goes over the page's end would have the bytes of the one at 8192.
	if l, e := rel.Parse(b, d); e != api.ErrReloc || l != nil {
		t.Error(e, l)
	}
	le.Put(b, dir+8+2, 2, 3<<12|32)
	want[1].RVA = 8224
	if l, e := rel.Parse(b, d); e != api.OK || !reflect.DeepEqual(l, want) {
		t.Error(e, l)
	}
}

func TestNoDirectory(t *testing.T) {
	b, _ := image()
	for _, img := range [][]byte{nil, b} {
		for _, size := range []int{0, 8, -1, math.MaxInt} {
			if l, e := rel.Parse(img, api.Dir{Size: size}); e != api.OK || len(l) != 0 {
				t.Error(size, e, l)
			}
		}
	}
	if l, e := rel.Parse(b, api.Dir{RVA: dir}); e != api.OK || len(l) != 0 {
		t.Error("a directory of nothing", e, l)
	}
}

func TestDirectoriesOutside(t *testing.T) {
	b, _ := image(block{4096, nil})
	for _, d := range []api.Dir{
		{RVA: -1, Size: 8}, {RVA: dir, Size: -1}, {RVA: dir, Size: math.MinInt}, {RVA: dir, Size: math.MaxInt}, {RVA: math.MaxInt, Size: 8}, {RVA: math.MinInt, Size: 8},
		{RVA: whole - 7, Size: 8}, {RVA: math.MaxInt, Size: math.MaxInt}, {RVA: whole + 1, Size: 8}, {RVA: dir, Size: whole - dir + 1},
	} {
		if l, e := rel.Parse(b, d); e != api.ErrReloc || l != nil {
			t.Error(d, e)
		}
	}
}

func TestBlocks(t *testing.T) {
	b, d := image(block{4096, [][2]int{{10, 0}, {0, 0}}}, block{4096, [][2]int{{3, 8}, {0, 0}}})
	for _, x := range []struct {
		at   int
		v    uint64
		want api.Errno
	}{
		{dir, 4096, api.OK}, {dir, 8192, api.OK}, {dir, 4097, api.ErrReloc}, {dir, 2048, api.ErrReloc}, {dir, 12288, api.ErrReloc}, {dir, 0xFFFFF000, api.ErrReloc}, {dir, 0, api.OK},
		{dir + 4, 0, api.ErrReloc}, {dir + 4, 4, api.ErrReloc}, {dir + 4, 7, api.ErrReloc}, {dir + 4, 10, api.ErrReloc}, {dir + 4, 14, api.ErrReloc}, {dir + 4, 28, api.ErrReloc}, {dir + 4, 0xFFFFFFFC, api.ErrReloc},
		{dir + 12 + 4, 16, api.ErrReloc}, {dir + 12 + 4, 8, api.ErrReloc}, {dir + 12 + 4, 12, api.OK},
	} {
		img := bytes.Clone(b)
		le.Put(img, x.at, 4, x.v)
		if l, e := rel.Parse(img, d); e != x.want || e != api.OK && l != nil {
			t.Error(x, e)
		}
	}
	for size := 0; size <= 24; size++ {
		_, e := rel.Parse(b, api.Dir{RVA: dir, Size: size})
		if (e == api.OK) != (size == 0 || size == 12 || size == 24) {
			t.Error(size, e)
		}
	}
	// What is behind the last block is asked, too: noughts are no block.
	if _, e := rel.Parse(b, api.Dir{RVA: dir, Size: 32}); e != api.ErrReloc {
		t.Error(e)
	}
}

func TestKinds(t *testing.T) {
	for kind := range 16 {
		b, d := image(block{4096, [][2]int{{kind, 16}, {0, 0}}})
		l, e := rel.Parse(b, d)
		if (e == api.OK) != (kind == 0 || kind == 3 || kind == 10) {
			t.Error(kind, e)
		}
		if e == api.OK && kind != 0 && (len(l) != 1 || l[0] != api.Rel{Kind: kind, RVA: 4112}) {
			t.Error(kind, l)
		}
	}
}

func TestSitesAtTheEnd(t *testing.T) {
	for off := 4080; off < 4096; off++ {
		for _, kind := range []int{3, 10} {
			b, d := image(block{8192, [][2]int{{kind, off}, {0, 0}}})
			n := 4
			if kind == 10 {
				n = 8
			}
			if _, e := rel.Parse(b, d); (e == api.OK) != (8192+off+n <= whole) {
				t.Error(off, kind, e)
			}
		}
	}
}

func TestSitesThatMeet(t *testing.T) {
	for _, a := range []int{3, 10} {
		for _, c := range []int{3, 10} {
			for off := 80; off <= 120; off++ {
				b, d := image(block{4096, [][2]int{{a, 100}, {c, off}}})
				la, lc := 4, 4
				if a == 10 {
					la = 8
				}
				if c == 10 {
					lc = 8
				}
				if _, e := rel.Parse(b, d); (e == api.OK) != (off+lc <= 100 || off >= 100+la) {
					t.Error(a, c, off, e)
				}
			}
		}
	}
}

func TestTheMost(t *testing.T) {
	for n := 510; n <= 514; n += 2 {
		var l [][2]int
		for i := range n {
			l = append(l, [2]int{3, 4 * i}, [2]int{0, 0})
		}
		b, d := image(block{8192, l})
		got, e := rel.Parse(b, d)
		if (e == api.OK) != (n <= 512) || e == api.OK && len(got) != n {
			t.Error(n, e)
		}
	}
}

func TestApply(t *testing.T) {
	b := make([]byte, 40)
	for i := range b {
		b[i] = byte(0xF0 + i)
	}
	before := bytes.Clone(b)
	l := []api.Rel{{Kind: 10, RVA: 0}, {Kind: 3, RVA: 11}, {Kind: 10, RVA: 32}, {Kind: 3, RVA: 16}}
	for _, delta := range []uint64{0, 1, 0x10000, 1 << 32, math.MaxUint64, 1 << 63, 0xFFFFFFFFFFFF0000} {
		img := rel.Apply(b, l, delta)
		want := bytes.Clone(b)
		for _, at := range []int{0, 32} {
			v, _ := le.U64(b, at)
			le.Put(want, at, 8, v+delta)
		}
		for _, at := range []int{11, 16} {
			v, _ := le.U32(b, at)
			le.Put(want, at, 4, uint64(uint32(v)+uint32(delta)))
		}
		if !bytes.Equal(img, want) {
			t.Errorf("%x\n%x\n%x", delta, img, want)
		}
		if back := rel.Apply(img, l, -delta); !bytes.Equal(back, before) {
			t.Errorf("%x: back", delta)
		}
	}
	if !bytes.Equal(b, before) {
		t.Error("what was handed in is changed")
	}
}

func TestApplyPassesOverWhatIsNoSite(t *testing.T) {
	b := make([]byte, 16)
	for _, r := range []api.Rel{
		{Kind: 0, RVA: 0}, {Kind: 1, RVA: 0}, {Kind: -3, RVA: 0}, {Kind: 13, RVA: 0}, {Kind: 10, RVA: 9}, {Kind: 3, RVA: 13}, {Kind: 3, RVA: -1}, {Kind: 10, RVA: -4}, {Kind: 10, RVA: math.MaxInt}, {Kind: 3, RVA: math.MinInt},
	} {
		if img := rel.Apply(b, []api.Rel{r}, math.MaxUint64); !bytes.Equal(img, make([]byte, 16)) {
			t.Error(r, img)
		}
	}
	if img := rel.Apply(nil, []api.Rel{{Kind: 10}}, 1); len(img) != 0 {
		t.Error(img)
	}
	img := rel.Apply(b, []api.Rel{{Kind: 10, RVA: 8}, {Kind: 3, RVA: 12}}, 1)
	if img[8] != 1 || img[12] != 1 {
		t.Error("the last place", img)
	}
	for i := range b {
		b[i] = byte(i + 1)
	}
	if img := rel.Apply(b, []api.Rel{{Kind: 3, RVA: 12}}, 0x01010101); !bytes.Equal(img[12:], []byte{14, 15, 16, 17}) || !bytes.Equal(img[:12], b[:12]) {
		t.Error("the last four", img)
	}
	b = make([]byte, 16)
	img = rel.Apply(b, nil, 5)
	img[0] = 9
	if b[0] != 0 {
		t.Error("no copy")
	}
}

func TestSites(t *testing.T) {
	l := []api.Rel{{Kind: 10, RVA: 40}, {Kind: 3, RVA: 8}, {Kind: 10, RVA: 0}}
	if s := rel.Sites(l); !reflect.DeepEqual(s, []api.Span{{At: 40, N: 8}, {At: 8, N: 4}, {At: 0, N: 8}}) {
		t.Error(s)
	}
	if len(rel.Sites(nil)) != 0 {
		t.Error("of none")
	}
}

func TestImagesDifferJustAtTheSites(t *testing.T) {
	b, d := image(block{4096, [][2]int{{10, 0}, {3, 100}, {10, 4092}, {3, 9}}}, block{8192, [][2]int{{3, 4}, {10, 50}}})
	for i := 4096; i < whole; i++ {
		b[i] = byte(i * 31)
	}
	l, e := rel.Parse(b, d)
	if e != api.OK {
		t.Fatal(e)
	}
	in := make([]bool, whole)
	for _, s := range rel.Sites(l) {
		for i := s.At; i < s.At+s.N; i++ {
			in[i] = true
		}
	}
	one, two := rel.Apply(b, l, 0x10000), rel.Apply(b, l, 0x30000)
	for i := range one {
		if one[i] != two[i] && !in[i] {
			t.Fatal(i)
		}
	}
	for _, s := range rel.Sites(l) {
		v, _ := le.U32(one, s.At)
		w, _ := le.U32(two, s.At)
		if uint32(w)-uint32(v) != 0x20000 {
			t.Error(s)
		}
	}
}
