package proc

import (
	"slices"

	"slipway/api"
	"slipway/bind"
	"slipway/deps"
	"slipway/fold"
	"slipway/le"
	"slipway/mapper"
)

// lenIndex is how many bytes a TLS index has.
const lenIndex = 4

// Load loads a module with all that it needs, and tells its base.
func (p *Proc) Load(name string) (uint64, api.Errno) {
	if _, there := p.Stack(first); !there {
		return 0, api.ErrSpace
	}
	if !fold.Ok(name) {
		return 0, api.ErrNoModule
	}
	if _, there := p.mods.Find(name); !there {
		list, e := deps.Load(p.mods, p.files, name)
		if e != api.OK {
			return 0, e
		}
		if e := p.bring(list); e != api.OK {
			return 0, e
		}
	}
	id, _ := p.mods.Find(name)
	p.mods.Handle(id, 1)
	mod, _ := p.mods.Get(id)
	return mod.Base, api.OK
}

// bring makes new modules ready, in their order; with an error it takes all of them back.
func (p *Proc) bring(list []int) api.Errno {
	mapped, e := p.mapAll(list)
	if e == api.OK {
		e = p.indexAll(list)
	}
	if e == api.OK {
		e = p.bindAll(list)
	}
	if e == api.OK {
		p.protectAll(list)
		e = p.attachAll(list)
	}
	if e != api.OK {
		p.detach(reversed(list))
		p.unmap(mapped)
		p.remove(list)
	}
	return e
}

// mapAll maps modules, and tells which were.
func (p *Proc) mapAll(list []int) ([]int, api.Errno) {
	mapped := []int{}
	for _, id := range list {
		pe, _ := p.mods.Pe(id)
		base, e := mapper.Map(p.mem, pe)
		if e != api.OK {
			return mapped, e
		}
		p.mods.SetBase(id, base)
		mapped = append(mapped, id)
	}
	return mapped, api.OK
}

// indexAll gives modules with a TLS directory their indexes.
func (p *Proc) indexAll(list []int) api.Errno {
	for _, id := range list {
		pe, _ := p.mods.Pe(id)
		if !pe.Tls.Is {
			continue
		}
		index, ok := p.freeIndex()
		if !ok {
			return api.ErrTls
		}
		p.mods.SetIndex(id, index)
		mod, _ := p.mods.Get(id)
		p.mem.Poke(mod.Base+uint64(pe.Tls.Index), le.Bytes(uint64(index), lenIndex))
		p.slots.Free(index)
	}
	return api.OK
}

// freeIndex tells the least index that no module has.
func (p *Proc) freeIndex() (int, bool) {
	taken := [api.MaxSlots]bool{}
	for _, id := range p.mods.All() {
		mod, _ := p.mods.Get(id)
		if mod.Index >= 0 && mod.Index < api.MaxSlots {
			taken[mod.Index] = true
		}
	}
	for i, is := range taken {
		if !is {
			return i, true
		}
	}
	return 0, false
}

func (p *Proc) bindAll(list []int) api.Errno {
	for _, id := range list {
		if _, e := bind.All(p.mem, p.mods, id); e != api.OK {
			return e
		}
	}
	return api.OK
}

func (p *Proc) protectAll(list []int) {
	for _, id := range list {
		pe, _ := p.mods.Pe(id)
		mod, _ := p.mods.Get(id)
		mapper.Protect(p.mem, pe, mod.Base)
	}
}

// attachAll tells modules that they come; the first that fails is told of in the trace.
func (p *Proc) attachAll(list []int) api.Errno {
	for _, id := range list {
		if e := p.tell(first, id, modComes); e != api.OK {
			mod, _ := p.mods.Get(id)
			p.put(api.Ev{Kind: api.EFail, Mod: mod.Key, Reason: modComes, Thread: first, N: uint64(e)})
			return e
		}
		p.mods.SetAttached(id, true)
	}
	return api.OK
}

// detach tells those of list that are attached that they go.
func (p *Proc) detach(list []int) {
	for _, id := range list {
		if mod, _ := p.mods.Get(id); mod.Attached {
			p.tell(first, id, modGoes)
			p.mods.SetAttached(id, false)
		}
	}
}

func (p *Proc) unmap(list []int) {
	for _, id := range list {
		pe, _ := p.mods.Pe(id)
		mod, _ := p.mods.Get(id)
		mapper.Unmap(p.mem, pe, mod.Base)
	}
}

// remove drops modules, with what their indexes stood for.
func (p *Proc) remove(list []int) {
	for _, id := range list {
		mod, _ := p.mods.Get(id)
		p.slots.Free(mod.Index)
		p.mods.Drop(id)
	}
}

// Free gives a handle back; modules that nobody needs any more go.
func (p *Proc) Free(name string) api.Errno {
	id, there := p.mods.Find(name)
	if !there {
		return api.ErrNoModule
	}
	if mod, _ := p.mods.Get(id); mod.Handles < 1 {
		return api.ErrNoModule
	}
	p.mods.Handle(id, -1)
	goes := deps.Goes(p.mods)
	p.detach(slices.DeleteFunc(reversed(p.mods.Attached()), func(id int) bool { return !slices.Contains(goes, id) }))
	p.unmap(goes)
	p.remove(goes)
	return api.OK
}
