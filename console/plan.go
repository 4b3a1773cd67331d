package console

import (
	"slices"

	"slipway/api"
	"slipway/asm"
	"slipway/dec"
	"slipway/fold"
	"slipway/forge"
)

// baseUnit is what a base is told in.
const baseUnit = 65536

// doPlan does a line of the first row, as long as there is no process.
func (c *Console) doPlan(x line) string {
	e := api.ErrText
	switch {
	case c.life != nil:
	case x.name == "dll":
		e = c.newPlan(x)
	case len(c.files) > 0:
		e = c.change(x)
	}
	if e != api.OK {
		return failed(e)
	}
	return "ok"
}

// newPlan begins a file.
func (c *Console) newPlan(x line) api.Errno {
	name := x.words[0]
	if !fold.Ok(name) || c.has(name) {
		return api.ErrArg
	}
	code, _ := dec.Encode(api.Ins{Op: api.ORet})
	p := api.Plan{Base: uint64(x.numbers[1]) * baseUnit, Dll: true, Entry: -1, Code: code}
	if !forge.Ok(p) {
		return api.ErrArg
	}
	c.files = append(c.files, planned{name, p})
	return api.OK
}

// has tells whether there is a file of that name, in whatever letters.
func (c *Console) has(name string) bool {
	return slices.ContainsFunc(c.files, func(f planned) bool { return fold.Same(f.name, name) })
}

// change changes the last plan, if that is Ok then.
func (c *Console) change(x line) api.Errno {
	last := &c.files[len(c.files)-1]
	p, e := changed(last.plan, x)
	if e != api.OK {
		return e
	}
	if !forge.Ok(p) {
		return api.ErrArg
	}
	last.plan = p
	return api.OK
}

// changed tells p with what the line asks for; the lists that become longer are new ones.
func changed(p api.Plan, x line) (api.Plan, api.Errno) {
	switch x.name {
	case "code":
		ins, e := asm.Line(x.words[0])
		if e != api.OK {
			return p, e
		}
		b, _ := dec.Encode(ins)
		p.Code = slices.Concat(p.Code, b)
	case "entry":
		p.Entry = x.numbers[0]
	case "export":
		p.Exports = slices.Concat(p.Exports, []api.PExp{{Name: x.words[0], Ord: len(p.Exports) + 1, At: x.numbers[1]}})
	case "forward":
		p.Exports = slices.Concat(p.Exports, []api.PExp{{Name: x.words[0], Ord: len(p.Exports) + 1, Forward: x.words[1]}})
	case "import":
		p.Imports = slices.Concat(p.Imports, []api.PImp{{Dll: x.words[0], Syms: []api.Sym{{Name: x.words[1]}}}})
	case "rel":
		p.Rels = slices.Concat(p.Rels, []api.PRel{{Kind: api.RDir, InData: true, At: x.numbers[0]}})
	case "data":
		b, _ := bytesOf(x.words[0])
		p.Data = slices.Concat(p.Data, b)
	case "tls":
		p.Tls = true
		p.Calls = slices.Concat(p.Calls, []int{x.numbers[0]})
	}
	return p, api.OK
}
