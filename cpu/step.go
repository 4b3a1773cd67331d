package cpu

import (
	"slipway/alu"
	"slipway/api"
	"slipway/dec"
	"slipway/le"
)

// Step does the instruction at IP.
func (c *Cpu) Step() (int, api.Errno) {
	x, n, e := c.fetch()
	if e != api.OK {
		return 0, e
	}
	next := c.now
	next.ip += uint64(n)
	if !c.do(x, &next) {
		return 0, api.ErrFault
	}
	c.now = next
	if x.Op == api.OInt {
		return int(x.Imm) + intBit, api.OK
	}
	return 0, api.OK
}

// fetch takes bytes one by one: what is behind the instruction must not be asked for.
func (c *Cpu) fetch() (api.Ins, int, api.Errno) {
	b := []byte{}
	for {
		more, f := c.mem.Fetch(c.now.ip+uint64(len(b)), 1)
		if f.Kind != api.FNone {
			c.fault = f
			return api.Ins{}, 0, api.ErrFault
		}
		b = append(b, more...)
		x, n, e := dec.Decode(b)
		if e != api.ErrShort {
			return x, n, e
		}
	}
}

// do does x on s, whose ip is behind x already; false of a fault, beside which s is not to be used.
func (c *Cpu) do(x api.Ins, s *state) bool {
	switch x.Op {
	case api.OPush, api.OPop, api.ORet, api.OCall, api.OCallR:
		return c.doStack(x, s)
	case api.OLoad, api.OStore, api.OLoadR, api.OStoreR:
		return c.doMemory(x, s)
	case api.OJmpR:
		return c.load(s.near(x), &s.ip)
	case api.OMovI, api.OMovL:
		s.regs[x.A] = x.Imm
	case api.OMov:
		s.regs[x.B] = s.regs[x.A]
	case api.OLea:
		s.regs[x.A] = s.near(x)
	case api.OAlu:
		s.reckon(x, s.regs[x.A])
	case api.OAluI, api.OShift, api.OOne:
		s.reckon(x, x.Imm)
	case api.OJmp, api.OJmpS:
		s.ip = s.near(x)
	case api.OJcc:
		if alu.Cond(x.CC, s.flags) {
			s.ip = s.near(x)
		}
	}
	return true
}

// doStack does what pushes and pops.
func (c *Cpu) doStack(x api.Ins, s *state) bool {
	switch x.Op {
	case api.OPush:
		return c.push(s, s.regs[x.A])
	case api.OPop:
		return c.pop(s, &s.regs[x.A])
	case api.ORet:
		return c.pop(s, &s.ip)
	}
	to := s.near(x)
	if x.Op == api.OCallR && !c.load(to, &to) {
		return false
	}
	if !c.push(s, s.ip) {
		return false
	}
	s.ip = to
	return true
}

// doMemory does what reads or writes a register.
func (c *Cpu) doMemory(x api.Ins, s *state) bool {
	at := s.near(x)
	if x.Op == api.OLoad || x.Op == api.OStore {
		at = s.regs[x.B] + uint64(x.Disp)
	}
	if x.Op == api.OLoad || x.Op == api.OLoadR {
		return c.load(at, &s.regs[x.A])
	}
	return c.store(at, s.regs[x.A])
}

// near is the address that x's Disp leads to from the next instruction on.
func (s *state) near(x api.Ins) uint64 {
	return s.ip + uint64(x.Disp)
}

// reckon does x on register B and v.
func (s *state) reckon(x api.Ins, v uint64) {
	s.regs[x.B], s.flags = alu.Do(x.Alu, s.regs[x.B], v, s.flags)
}

// push writes v below the stack, which reaches there then.
func (c *Cpu) push(s *state, v uint64) bool {
	s.regs[regStack] -= lenWord
	return c.store(s.regs[regStack], v)
}

// pop reads into to last, so that the stack's own register has what was read.
func (c *Cpu) pop(s *state, to *uint64) bool {
	at := s.regs[regStack]
	s.regs[regStack] += lenWord
	return c.load(at, to)
}

// load reads a number of eight bytes; false of a fault.
func (c *Cpu) load(at uint64, to *uint64) bool {
	b, f := c.mem.Read(at, lenWord)
	if f.Kind != api.FNone {
		c.fault = f
		return false
	}
	*to, _ = le.U64(b, 0)
	return true
}

// store writes a number of eight bytes; false of a fault.
func (c *Cpu) store(at, v uint64) bool {
	f := c.mem.Write(at, le.Bytes(v, lenWord))
	if f.Kind != api.FNone {
		c.fault = f
		return false
	}
	return true
}
