package forge

import (
	"slipway/api"
	"slipway/hdr"
	"slipway/le"
)

const (
	headAt    = 64
	lenFixed  = 264
	lenSect   = 40
	fileAlign = 512
)

// Chars of images and of sections.
const (
	charsImage = 0x0022
	charDll    = 0x2000
	charsCode  = 0x60000020
	charsWrite = 0xC0000040
	charsRead  = 0x40000040
)

// part is a section and its bytes.
type part struct {
	sect  api.Sect
	bytes []byte
}

// Write makes an image by p.
func Write(p api.Plan) ([]byte, api.Errno) {
	if !Ok(p) {
		return nil, api.ErrArg
	}
	r := makeRest(p)
	l := parts(p, r)
	b := head(p, r, l)
	for i, x := range l {
		putSect(b, i, x.sect)
	}
	for _, x := range l {
		b = append(b, x.bytes...)
		b = append(b, make([]byte, x.sect.Raw-len(x.bytes))...)
	}
	return b, api.OK
}

// parts tells the sections in their order, with their places in the file.
func parts(p api.Plan, r *rest) []part {
	l := []part{
		makePart(".text", textRVA, len(p.Code), charsCode, p.Code),
		makePart(".data", dataRVA, len(p.Data), charsWrite, p.Data),
	}
	if hasState(p) {
		l = append(l, makePart(".state", stateRVA, handleAt(len(p.Delays))-stateRVA, charsWrite, nil))
	}
	if len(r.b) > 0 {
		l = append(l, makePart(".rest", r.rva, len(r.b), charsRead, r.b))
	}
	at := headLen(len(l))
	for i := range l {
		if l[i].sect.Raw > 0 {
			l[i].sect.At = at
		}
		at += l[i].sect.Raw
	}
	return l
}

// makePart tells a section of size bytes, of one at least: a section of none is no section.
func makePart(name string, rva, size, chars int, b []byte) part {
	s := api.Sect{Name: name, VSize: max(size, 1), RVA: rva, Raw: hdr.Round(len(b), fileAlign), Chars: chars}
	return part{sect: s, bytes: b}
}

// headLen is the length of a head with n sections.
func headLen(n int) int {
	return hdr.Round(headAt+lenFixed+lenSect*n, fileAlign)
}

// number is what stands in so many bytes of the head.
type number struct {
	at, n int
	v     uint64
}

// head makes all that stands ahead of the sections' bytes, but the sections themselves.
func head(p api.Plan, r *rest, l []part) []byte {
	b := make([]byte, headLen(len(l)))
	copy(b, "MZ")
	copy(b[headAt:], "PE")
	last := l[len(l)-1].sect
	for _, x := range []number{
		{60 - headAt, 4, headAt},
		{4, 2, 0x8664},
		{6, 2, uint64(len(l))},
		{8, 4, uint64(p.Stamp)},
		{20, 2, 240},
		{22, 2, chars(p)},
		{24, 2, 0x20b},
		{40, 4, entry(p)},
		{48, 8, p.Base},
		{56, 4, api.PageSize},
		{60, 4, fileAlign},
		{80, 4, uint64(last.RVA + hdr.Round(last.VSize, api.PageSize))},
		{84, 4, uint64(len(b))},
		{92, 2, 3},
		{132, 4, 16},
	} {
		le.Put(b, headAt+x.at, x.n, x.v)
	}
	for i, d := range r.dirs {
		le.Put(b, headAt+136+8*i, 4, uint64(d.RVA))
		le.Put(b, headAt+140+8*i, 4, uint64(d.Size))
	}
	return b
}

func chars(p api.Plan) uint64 {
	if p.Dll {
		return charsImage | charDll
	}
	return charsImage
}

func entry(p api.Plan) uint64 {
	if p.Entry < 0 {
		return 0
	}
	return uint64(textRVA + p.Entry)
}

// putSect writes the section i into the head.
func putSect(b []byte, i int, s api.Sect) {
	at := headAt + lenFixed + lenSect*i
	copy(b[at:at+8], s.Name)
	for k, v := range []int{s.VSize, s.RVA, s.Raw, s.At} {
		le.Put(b, at+8+4*k, 4, uint64(v))
	}
	le.Put(b, at+36, 4, uint64(s.Chars))
}
