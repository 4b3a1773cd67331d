package mapper_test

import (
	"bytes"
	"math"
	"slices"
	"testing"

	"slipway/api"
	"slipway/forge"
	"slipway/mapper"
	"slipway/pe"
	"slipway/rel"
	"slipway/room"
	"slipway/sect"
	"slipway/vmem"
)

const base = 0x40000

// image has sites in code and data, and a TLS directory.
func image(t *testing.T, at uint64) api.Pe {
	t.Helper()
	code, data := make([]byte, 64), make([]byte, 32)
	for i := range code {
		code[i] = byte(i * 5)
	}
	for i := range data {
		data[i] = byte(255 - i)
	}
	b, e := forge.Write(api.Plan{Base: at, Entry: 0, Code: code, Data: data, Tls: true, Calls: []int{3}, Rels: []api.PRel{{Kind: 10, At: 8}, {Kind: 3, At: 20}, {Kind: 10, InData: true, At: 1}}})
	if e != api.OK {
		t.Fatal(e)
	}
	p, e := pe.Parse(b)
	if e != api.OK {
		t.Fatal(e)
	}
	return p
}

func pages(p api.Pe) int { return p.Head.Size / 4096 }

// there reads what is mapped of p.
func there(t *testing.T, m *vmem.Mem, p api.Pe, at uint64) []byte {
	t.Helper()
	var b []byte
	for i := range pages(p) {
		l, ok := m.Peek(at+uint64(i)*4096, 4096)
		if !ok {
			t.Fatal("not mapped", i)
		}
		b = append(b, l...)
	}
	return b
}

func TestMapAtItsBase(t *testing.T) {
	m := vmem.New(64)
	p := image(t, base)
	at, e := mapper.Map(m, p)
	if at != base || e != api.OK || len(m.Pages()) != pages(p) || !bytes.Equal(there(t, m, p, at), p.Img) {
		t.Fatal(at, e, m.Pages())
	}
	for _, at := range m.Pages() {
		if prot, _ := m.Prot(at); prot != api.PR|api.PW {
			t.Error(at, prot)
		}
	}
}

func TestMapElsewhere(t *testing.T) {
	for _, taken := range []uint64{base, base + 4096} {
		m := vmem.New(64)
		m.Map(taken, 1, 0)
		p := image(t, base)
		want, _ := room.Find(m, pages(p))
		at, e := mapper.Map(m, p)
		if at != want || at == base || e != api.OK || !bytes.Equal(there(t, m, p, at), mapper.Image(p, at)) {
			t.Error(at, e)
		}
		second, e := mapper.Map(m, p)
		if second == at || e != api.OK || !bytes.Equal(there(t, m, p, second), mapper.Image(p, second)) || !bytes.Equal(there(t, m, p, at), mapper.Image(p, at)) {
			t.Error(second, e)
		}
	}
}

func TestMapOfOneThatCannotBeMoved(t *testing.T) {
	p := image(t, base)
	p.Head.Chars |= 1
	m := vmem.New(64)
	if at, e := mapper.Map(m, p); at != base || e != api.OK {
		t.Error(at, e)
	}
	before := m.Pages()
	if at, e := mapper.Map(m, p); at != 0 || e != api.ErrReloc || !slices.Equal(m.Pages(), before) {
		t.Error(at, e)
	}
}

func TestMapWithoutSpace(t *testing.T) {
	p := image(t, base)
	for free := range pages(p) + 2 {
		m := vmem.New(free)
		at, e := mapper.Map(m, p)
		if free < pages(p) && (e != api.ErrSpace || at != 0 || len(m.Pages()) != 0) || free >= pages(p) && e != api.OK {
			t.Error(free, at, e, m.Pages())
		}
	}
	// All places are taken, though pages are left.
	m := vmem.New(1024)
	for at := uint64(65536); at < 1<<24; at += 65536 {
		m.Map(at, 1, 1)
	}
	if at, e := mapper.Map(m, p); at != 0 || e != api.ErrSpace {
		t.Error(at, e)
	}
	p.Head.Chars |= 1
	if at, e := mapper.Map(m, p); at != 0 || e != api.ErrReloc {
		t.Error("that it can't be moved comes first", at, e)
	}
	high := image(t, 1<<45)
	if at, e := mapper.Map(m, high); at != 1<<45 || e != api.OK {
		t.Error("beyond", at, e)
	}
}

func TestMapOfAGreatOne(t *testing.T) {
	p := image(t, base)
	p.Head.Size = 64 * 4096
	p.Img = make([]byte, p.Head.Size)
	for i := range p.Img {
		p.Img[i] = byte(i * 7 >> 3)
	}
	p.Rels = nil
	m := vmem.New(64)
	if at, e := mapper.Map(m, p); at != base || e != api.OK || !bytes.Equal(there(t, m, p, at), p.Img) {
		t.Error(at, e)
	}
}

func TestAtTwoBasesJustTheSitesDiffer(t *testing.T) {
	p := image(t, base)
	low, high := uint64(0x10000), uint64(0x7FFFFFFF0000)
	one, two := mapper.Image(p, low), mapper.Image(p, high)
	if !bytes.Equal(mapper.Image(p, base), p.Img) || !bytes.Equal(one, rel.Apply(p.Img, p.Rels, low-p.Head.Base)) {
		t.Error("Image")
	}
	in := make([]bool, len(one))
	for _, s := range rel.Sites(p.Rels) {
		for i := s.At; i < s.At+s.N; i++ {
			in[i] = true
		}
	}
	for i := range one {
		if one[i] != two[i] && !in[i] {
			t.Error(i)
		}
	}
	if back := rel.Apply(two, p.Rels, low-high); !bytes.Equal(back, one) {
		t.Error("the difference of the bases")
	}
	one[0]++
	if one[0] == p.Img[0] {
		t.Error("the image's own memory")
	}
}

func TestProtect(t *testing.T) {
	m := vmem.New(64)
	p := image(t, base)
	at, _ := mapper.Map(m, p)
	if !mapper.Protect(m, p, at) {
		t.Fatal("Protect")
	}
	for i := range pages(p) {
		prot, _ := m.Prot(at + uint64(i)*4096)
		if prot != sect.ProtAt(p.Head, i*4096) {
			t.Error(i, prot)
		}
	}
	if f := m.Write(at, []byte{1}); f.Kind != api.FWrite {
		t.Error("the head", f)
	}
	if f := m.Write(at+4096, []byte{1}); f.Kind != api.FWrite {
		t.Error("the code", f)
	}
	if _, f := m.Fetch(at+4096, 1); f.Kind != api.FNone {
		t.Error("the code", f)
	}
	if f := m.Write(at+8192, []byte{1}); f.Kind != api.FNone {
		t.Error("the data", f)
	}
	if _, f := m.Fetch(at+8192, 1); f.Kind != api.FExec {
		t.Error("the data", f)
	}
	if !bytes.Equal(there(t, m, p, at)[:4096], p.Img[:4096]) {
		t.Error("what is there is changed")
	}
}

func TestProtectAndUnmapRefuse(t *testing.T) {
	p := image(t, base)
	m := vmem.New(64)
	m.Map(base, pages(p)+1, api.PR|api.PW)
	m.Unmap(base+uint64(pages(p))*4096, 1)
	before := m.Pages()
	for _, at := range []uint64{base + 1, base + 4096, base - 4096, 0, 1 << 47, math.MaxUint64 - 4095, math.MaxUint64} {
		if mapper.Protect(m, p, at) || mapper.Unmap(m, p, at) {
			t.Error(at)
		}
	}
	if !slices.Equal(m.Pages(), before) {
		t.Error(m.Pages())
	}
	for _, at := range before {
		if prot, _ := m.Prot(at); prot != api.PR|api.PW {
			t.Error("protected", at, prot)
		}
	}
	for _, size := range []int{math.MaxInt, 1 << 40, 4096 * 2000} {
		q := p
		q.Head.Size = size
		if mapper.Protect(m, q, base) || mapper.Unmap(m, q, base) {
			t.Error(size)
		}
		if at, e := mapper.Map(m, q); at != 0 || e != api.ErrSpace {
			t.Error(size, at, e)
		}
	}
}

func TestUnmap(t *testing.T) {
	m := vmem.New(64)
	m.Map(base-4096, 1, 1)
	m.Map(base+0x10000, 1, 1)
	p := image(t, base)
	at, _ := mapper.Map(m, p)
	if !mapper.Unmap(m, p, at) || !slices.Equal(m.Pages(), []uint64{base - 4096, base + 0x10000}) {
		t.Error(m.Pages())
	}
	if mapper.Unmap(m, p, at) {
		t.Error("twice")
	}
	if again, e := mapper.Map(m, p); again != at || e != api.OK {
		t.Error(again, e)
	}
}

func TestHandMadeSizes(t *testing.T) {
	for _, size := range []int{0, 1, 4095, -1, -4096, math.MinInt} {
		p := image(t, base)
		p.Head.Size = size
		m := vmem.New(8)
		if at, e := mapper.Map(m, p); at != 0 || e != api.ErrSpace || len(m.Pages()) != 0 {
			t.Error(size, at, e)
		}
	}
}
