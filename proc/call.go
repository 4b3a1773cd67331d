package proc

import (
	"slipway/api"
	"slipway/cpu"
	"slipway/gates"
	"slipway/look"
	"slipway/run"
)

// Why a module is told.
const (
	modGoes = iota
	modComes
	threadComes
	threadGoes
)

// charDll is the bit of Chars by which an image's entry is told what happens.
const charDll = 0x2000

// call runs code of the module key on a thread.
func (p *Proc) call(thread int, key string, at uint64, args [3]uint64, fuel *run.Fuel) (uint64, api.Errno) {
	stack, there := p.Stack(thread)
	if !there {
		return 0, api.ErrThread
	}
	say := func(v uint64) {
		p.put(api.Ev{Kind: api.ESay, Mod: key, Thread: thread, N: v})
	}
	gate := func(n int, c *cpu.Cpu) bool {
		return gates.Do(n, c, p.slots, thread, say)
	}
	sp := stack + stackPages*api.PageSize - stackRest
	return run.Call(p.mem, at, sp, args, fuel, gate)
}

// tell tells a module why, by its TLS calls and then by its entry. An error is told just of one that comes.
func (p *Proc) tell(thread, id, reason int) api.Errno {
	mod, _ := p.mods.Get(id)
	pe, _ := p.mods.Pe(id)
	x := api.Ev{Kind: api.ETls, Mod: mod.Key, Reason: reason, Thread: thread}
	for i, rva := range pe.Tls.Calls {
		x.N = uint64(i)
		if _, e := p.tellOne(x, mod.Base, rva); e != api.OK {
			return e
		}
	}
	if pe.Head.Chars&charDll == 0 || pe.Head.Entry == 0 {
		return api.OK
	}
	x.Kind, x.N = api.EMain, 0
	v, e := p.tellOne(x, mod.Base, pe.Head.Entry)
	if e == api.OK && v == 0 && reason == modComes {
		return api.ErrInit
	}
	return e
}

// tellOne puts an event, and does its call: by the process's fuel, if a module comes, else by little fuel of its own, whatever comes of it.
func (p *Proc) tellOne(x api.Ev, base uint64, rva int) (uint64, api.Errno) {
	p.put(x)
	args := [3]uint64{base, uint64(x.Reason), 0}
	if x.Reason == modComes {
		return p.call(x.Thread, x.Mod, base+uint64(rva), args, p.fuel)
	}
	p.call(x.Thread, x.Mod, base+uint64(rva), args, run.NewFuel(api.TellFuel))
	return 0, api.OK
}

// Query tells where a module's symbol leads.
func (p *Proc) Query(name string, s api.Sym) (uint64, api.Errno) {
	id, there := p.mods.Find(name)
	if !there {
		return 0, api.ErrNoModule
	}
	return look.Find(p.mods, id, s)
}

// Call calls a module's symbol on a thread.
func (p *Proc) Call(thread int, name string, s api.Sym, arg uint64) (uint64, api.Errno) {
	if _, there := p.Stack(thread); !there {
		return 0, api.ErrThread
	}
	at, e := p.Query(name, s)
	if e != api.OK {
		return 0, e
	}
	id, _ := p.mods.Find(name)
	mod, _ := p.mods.Get(id)
	return p.call(thread, mod.Key, at, [3]uint64{arg}, p.fuel)
}
