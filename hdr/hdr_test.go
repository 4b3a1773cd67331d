package hdr_test

import (
	"math"
	"reflect"
	"testing"

	"slipway/api"
	"slipway/hdr"
	"slipway/le"
)

// p is where the head of the tests' image begins.
const p = 128

// edit is a number that is put into an image.
type edit struct {
	at, n int
	v     uint64
}

// image makes an image with two sections, of 1,024 and 0 bytes in the file, which ends behind the first.
func image(edits ...edit) []byte {
	b := make([]byte, 2048)
	copy(b, "MZ")
	copy(b[p:], "PE\x00\x00")
	for _, x := range []edit{
		{60, 4, p}, {p + 4, 2, 0x8664}, {p + 6, 2, 2}, {p + 8, 4, 0xFEDCBA98}, {p + 20, 2, 240}, {p + 22, 2, 0x2022},
		{p + 24, 2, 0x20b}, {p + 40, 4, 4100}, {p + 48, 8, 0x140000000}, {p + 56, 4, 4096}, {p + 60, 4, 512}, {p + 80, 4, 4 * 4096}, {p + 84, 4, 1024}, {p + 132, 4, 16},
	} {
		le.Put(b, x.at, x.n, x.v)
	}
	for i := range 16 {
		le.Put(b, p+136+8*i, 4, uint64(100*i+1))
		le.Put(b, p+140+8*i, 4, uint64(100*i+2))
	}
	sect(b, 0, ".text", 1000, 4096, 1024, 1024, 0x60000020)
	sect(b, 1, "eightchr", 8192, 8192, 0, 0xFFFFFFFF, 0xC0000040)
	for _, x := range edits {
		le.Put(b, x.at, x.n, x.v)
	}
	return b
}

func sect(b []byte, i int, name string, vsize, rva, raw, at, chars uint64) {
	q := p + 264 + 40*i
	copy(b[q:q+8], name)
	for k, v := range []uint64{vsize, rva, raw, at} {
		le.Put(b, q+8+4*k, 4, v)
	}
	le.Put(b, q+36, 4, chars)
}

// s is the place of a number in section i.
func s(i, at int) int { return p + 264 + 40*i + at }

func TestParseReadsTheHead(t *testing.T) {
	b := image()
	want := api.Head{Base: 0x140000000, Stamp: 0xFEDCBA98, Chars: 0x2022, Entry: 4100, Size: 4 * 4096, Headers: 1024, Sects: []api.Sect{
		{Name: ".text", VSize: 1000, RVA: 4096, Raw: 1024, At: 1024, Chars: 0x60000020},
		{Name: "eightchr", VSize: 8192, RVA: 8192, At: 0xFFFFFFFF, Chars: 0xC0000040}}}
	for i := range want.Dirs {
		want.Dirs[i] = api.Dir{RVA: 100*i + 1, Size: 100*i + 2}
	}
	h, e := hdr.Parse(b)
	if e != api.OK || !reflect.DeepEqual(h, want) {
		t.Errorf("%v %+v", e, h)
	}
	if !reflect.DeepEqual(b, image()) {
		t.Error("what was handed in is changed")
	}
}

func TestParseNames(t *testing.T) {
	for name, want := range map[string]string{"\x00bc": "", "a\x00b\x00cdef": "a", "\xff\x01": "\xff\x01", "12345678": "12345678", "1234567": "1234567"} {
		b := image()
		copy(b[s(0, 0):s(0, 8)], name+"\x00\x00\x00\x00\x00\x00\x00\x00")
		if h, e := hdr.Parse(b); e != api.OK || h.Sects[0].Name != want {
			t.Errorf("%q %v", name, e)
		}
	}
}

func TestParseErrors(t *testing.T) {
	for _, x := range []struct {
		what string
		edit edit
		want api.Errno
	}{
		{"nothing", edit{1000, 1, 0}, api.OK},
		{"magic", edit{0, 1, 'm'}, api.ErrMagic}, {"magic", edit{1, 1, 'z'}, api.ErrMagic},
		{"place below 64", edit{60, 4, 60}, api.ErrShort}, {"place 0", edit{60, 4, 0}, api.ErrShort}, {"place odd", edit{60, 4, p + 2}, api.ErrShort},
		{"place beyond", edit{60, 4, 2048 - 260}, api.ErrShort}, {"place far", edit{60, 4, 0xFFFFFFFC}, api.ErrShort}, {"another place", edit{60, 4, 2048 - 264}, api.ErrMagic},
		{"PE", edit{p, 1, 'p'}, api.ErrMagic}, {"PE", edit{p + 1, 1, 'e'}, api.ErrMagic}, {"PE", edit{p + 2, 1, 1}, api.ErrMagic}, {"PE", edit{p + 3, 1, 1}, api.ErrMagic},
		{"machine", edit{p + 4, 2, 0x14c}, api.ErrMachine}, {"machine", edit{p + 5, 1, 0x87}, api.ErrMachine},
		{"optional", edit{p + 20, 2, 239}, api.ErrOpt}, {"optional", edit{p + 20, 2, 224}, api.ErrOpt}, {"optional's magic", edit{p + 24, 2, 0x10b}, api.ErrOpt},
		{"directories", edit{p + 132, 4, 15}, api.ErrOpt}, {"directories", edit{p + 132, 4, 17}, api.ErrOpt},
		{"alignment", edit{p + 56, 4, 8192}, api.ErrAlign}, {"alignment", edit{p + 56, 4, 512}, api.ErrAlign}, {"alignment", edit{p + 60, 4, 4096}, api.ErrAlign},
		{"base", edit{p + 48, 8, 0}, api.ErrAlign}, {"base", edit{p + 48, 8, 65536}, api.OK}, {"base", edit{p + 48, 8, 65536 + 4096}, api.ErrAlign},
		{"base", edit{p + 48, 8, 32768}, api.ErrAlign}, {"base", edit{p + 48, 8, 1 << 45}, api.OK}, {"base", edit{p + 48, 8, 1<<45 + 65536}, api.ErrAlign},
		{"base", edit{p + 48, 8, 1 << 63}, api.ErrAlign}, {"base", edit{p + 48, 8, math.MaxUint64 - 65535}, api.ErrAlign},
		{"size", edit{p + 80, 4, 0}, api.ErrAlign}, {"size", edit{p + 80, 4, 4*4096 + 512}, api.ErrAlign}, {"size", edit{p + 80, 4, 65 * 4096}, api.ErrAlign},
		{"size", edit{p + 80, 4, 0xFFFFF000}, api.ErrAlign}, {"size", edit{p + 80, 4, 64 * 4096}, api.ErrSect}, {"size", edit{p + 80, 4, 3 * 4096}, api.ErrSect}, {"size", edit{p + 80, 4, 4096}, api.ErrSect},
		{"sections", edit{p + 6, 2, 0}, api.ErrSect}, {"sections", edit{p + 6, 2, 17}, api.ErrSect}, {"sections", edit{p + 6, 2, 65535}, api.ErrSect}, {"sections", edit{p + 6, 2, 1}, api.ErrSect}, {"sections", edit{p + 6, 2, 3}, api.ErrSect},
		{"headers", edit{p + 84, 4, p + 264 + 80}, api.OK}, {"headers", edit{p + 84, 4, p + 264 + 79}, api.ErrSect}, {"headers", edit{p + 84, 4, 0}, api.ErrSect},
		{"headers", edit{p + 84, 4, 2048}, api.OK}, {"headers", edit{p + 84, 4, 2049}, api.ErrSect}, {"headers", edit{p + 84, 4, 4097}, api.ErrSect},
		{"rva", edit{s(0, 12), 4, 8192}, api.ErrSect}, {"rva", edit{s(0, 12), 4, 4095}, api.ErrSect}, {"rva", edit{s(1, 12), 4, 4096}, api.ErrSect}, {"rva", edit{s(1, 12), 4, 12288}, api.ErrSect},
		{"vsize", edit{s(0, 8), 4, 0}, api.ErrSect}, {"vsize", edit{s(0, 8), 4, 1}, api.OK}, {"vsize", edit{s(0, 8), 4, 4096}, api.OK}, {"vsize", edit{s(0, 8), 4, 4097}, api.ErrSect},
		{"vsize", edit{s(1, 8), 4, 4097}, api.OK}, {"vsize", edit{s(1, 8), 4, 4096}, api.ErrSect}, {"vsize", edit{s(1, 8), 4, 0xFFFFFFFF}, api.ErrSect}, {"vsize", edit{s(1, 8), 4, 5 * 4096}, api.ErrSect},
		{"raw", edit{s(0, 16), 4, 1023}, api.ErrSect}, {"raw", edit{s(0, 16), 4, 512}, api.OK}, {"raw", edit{s(0, 16), 4, 1536}, api.ErrSect}, {"raw", edit{s(0, 16), 4, 0}, api.OK}, {"raw", edit{s(1, 16), 4, 512}, api.ErrSect},
		{"at", edit{s(0, 20), 4, 1025}, api.ErrSect}, {"at", edit{s(0, 20), 4, 0}, api.OK}, {"at", edit{s(0, 20), 4, 0xFFFFFFFF}, api.ErrSect}, {"at of none", edit{s(1, 20), 4, 0}, api.OK},
		{"entry", edit{p + 40, 4, 4*4096 - 1}, api.OK}, {"entry", edit{p + 40, 4, 4 * 4096}, api.ErrOpt}, {"entry", edit{p + 40, 4, 0xFFFFFFFF}, api.ErrOpt}, {"entry", edit{p + 40, 4, 0}, api.OK},
	} {
		h, e := hdr.Parse(image(x.edit))
		if e != x.want {
			t.Error(x.what, x.edit, e)
		}
		if e != api.OK && !reflect.DeepEqual(h, api.Head{}) {
			t.Error("beside an error", x.what, h)
		}
	}
}

func TestParseOfLittle(t *testing.T) {
	whole := image()
	for n := range whole {
		want := api.ErrShort
		if n >= p+264 {
			want = api.ErrSect
		}
		if _, e := hdr.Parse(whole[:n]); e != want {
			t.Fatal(n, e)
		}
	}
	if _, e := hdr.Parse(nil); e != api.ErrShort {
		t.Error(e)
	}
	if _, e := hdr.Parse(make([]byte, 63)); e != api.ErrShort {
		t.Error("the length is asked first", e)
	}
	if _, e := hdr.Parse(make([]byte, 64)); e != api.ErrMagic {
		t.Error(e)
	}
}

func TestRawAboveItsRoom(t *testing.T) {
	b := append(image(edit{s(0, 16), 4, 4096 + 512}), make([]byte, 8192)...)
	if _, e := hdr.Parse(b); e != api.ErrSect {
		t.Error(e)
	}
	b = append(image(edit{s(0, 16), 4, 4096}), make([]byte, 8192)...)
	if _, e := hdr.Parse(b); e != api.OK {
		t.Error(e)
	}
}

func TestParseAsksInOrder(t *testing.T) {
	wrong := []struct {
		edit edit
		e    api.Errno
	}{
		{edit{0, 1, 0}, api.ErrMagic}, {edit{p, 1, 0}, api.ErrMagic}, {edit{p + 4, 2, 0}, api.ErrMachine}, {edit{p + 132, 4, 0}, api.ErrOpt},
		{edit{p + 80, 4, 1}, api.ErrAlign}, {edit{p + 6, 2, 0}, api.ErrSect}, {edit{s(1, 12), 4, 0}, api.ErrSect}, {edit{p + 40, 4, 0xFFFFFFFF}, api.ErrOpt},
	}
	for i, a := range wrong {
		for _, b := range wrong[i:] {
			if _, e := hdr.Parse(image(a.edit, b.edit)); e != a.e {
				t.Error(a, b, e)
			}
		}
	}
	// A place out of bounds is asked ahead of PE, behind MZ.
	if _, e := hdr.Parse(image(edit{60, 4, 1}, edit{p, 1, 0})); e != api.ErrShort {
		t.Error(e)
	}
	if _, e := hdr.Parse(image(edit{60, 4, 1}, edit{0, 1, 0})); e != api.ErrMagic {
		t.Error(e)
	}
}

func TestTheLeastPlaceOfTheHead(t *testing.T) {
	// The head moves 64 bytes ahead, just behind what stands at the beginning.
	b := image()
	copy(b[64:], b[p:p+264+80])
	for at, want := range map[uint64]api.Errno{64: api.OK, 60: api.ErrShort, 62: api.ErrShort} {
		le.Put(b, 60, 4, at)
		if _, e := hdr.Parse(b); e != want {
			t.Error(at, e)
		}
	}
}

func TestTheGreatestHeaders(t *testing.T) {
	for headers, want := range map[uint64]api.Errno{4095: api.OK, 4096: api.OK, 4097: api.ErrSect} {
		b := append(image(edit{p + 84, 4, headers}), make([]byte, 8192)...)
		if _, e := hdr.Parse(b); e != want {
			t.Error(headers, e)
		}
	}
}

func TestNoSections(t *testing.T) {
	if _, e := hdr.Parse(image(edit{p + 6, 2, 0}, edit{p + 80, 4, 4096}, edit{p + 40, 4, 0})); e != api.ErrSect {
		t.Error(e)
	}
}

func TestSixteenSections(t *testing.T) {
	for n := 1; n <= 17; n++ {
		b := image(edit{p + 6, 2, uint64(n)}, edit{p + 80, 4, uint64(n+1) * 4096}, edit{p + 84, 4, 1100})
		for i := range n {
			sect(b, i, "s", 1, uint64(i+1)*4096, 0, 0, 0)
		}
		want := api.OK
		if n > 16 {
			want = api.ErrSect
		}
		if h, e := hdr.Parse(b); e != want || e == api.OK && len(h.Sects) != n {
			t.Error(n, e)
		}
	}
}

func TestRound(t *testing.T) {
	const most = 1 << 40
	for _, x := range []struct{ n, to, want int }{
		{0, 4096, 0}, {-5, 4096, 0}, {math.MinInt, math.MinInt, 0}, {1, 4096, 4096}, {4095, 4096, 4096}, {4096, 4096, 4096}, {4097, 4096, 8192},
		{7, 1, 7}, {7, 0, 7}, {7, -9, 7}, {7, math.MinInt, 7}, {7, 3, 9}, {most, 4096, most}, {most + 1, 4096, most}, {math.MaxInt, 4096, most}, {math.MaxInt, 1, most},
		{5, math.MaxInt, math.MaxInt}, {math.MaxInt, math.MaxInt, math.MaxInt}, {most - 1, 512, most}, {math.MaxInt, 3, most + 2},
	} {
		if r := hdr.Round(x.n, x.to); r != x.want {
			t.Error(x, r)
		}
	}
}

func FuzzParse(f *testing.F) {
	f.Add(image())
	f.Fuzz(func(t *testing.T, b []byte) {
		h, e := hdr.Parse(b)
		if e != api.OK && !reflect.DeepEqual(h, api.Head{}) || e == api.OK && (h.Size > 64*4096 || len(h.Sects) > 16) {
			t.Error(e, h)
		}
	})
}
