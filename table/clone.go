package table

import (
	"bytes"
	"slices"

	"slipway/api"
)

// clone copies an image with all its lists, so that nobody outside can change what is kept.
func clone(p api.Pe) api.Pe {
	p.Head.Sects = slices.Clone(p.Head.Sects)
	p.Img = bytes.Clone(p.Img)
	p.Exports.Funcs = slices.Clone(p.Exports.Funcs)
	p.Exports.Names = slices.Clone(p.Exports.Names)
	p.Imps = cloneImps(p.Imps)
	p.Delays = cloneImps(p.Delays)
	p.Bounds = slices.Clone(p.Bounds)
	p.Rels = slices.Clone(p.Rels)
	p.Tls.Calls = slices.Clone(p.Tls.Calls)
	return p
}

func cloneImps(l []api.Imp) []api.Imp {
	l = slices.Clone(l)
	for i := range l {
		l[i].Syms = slices.Clone(l[i].Syms)
	}
	return l
}
