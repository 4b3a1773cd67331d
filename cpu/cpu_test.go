package cpu_test

import (
	"math"
	"testing"

	"slipway/alu"
	"slipway/api"
	"slipway/cpu"
	"slipway/dec"
	"slipway/le"
	"slipway/vmem"
)

const (
	page  = 4096
	code  = 0x10000
	data  = 0x20000
	stack = 0x30000
	top   = stack + page
)

// memory has a page of code, one of data and one of stack.
func memory(t *testing.T, l ...api.Ins) *vmem.Mem {
	t.Helper()
	m := vmem.New(16)
	m.Map(code, 1, api.PR|api.PX)
	m.Map(data, 1, api.PR|api.PW)
	m.Map(stack, 1, api.PR|api.PW)
	at := uint64(code)
	for _, x := range l {
		b, ok := dec.Encode(x)
		if !ok {
			t.Fatalf("%+v", x)
		}
		m.Poke(at, b)
		at += uint64(len(b))
	}
	return m
}

// machine stands at the code, its registers 100, 101, ... but for the stack's.
func machine(t *testing.T, l ...api.Ins) (*cpu.Cpu, *vmem.Mem) {
	t.Helper()
	m := memory(t, l...)
	c := cpu.New(m)
	for i := range 16 {
		c.Set(i, uint64(100+i))
	}
	c.Set(4, top-64)
	c.Jump(code)
	return c, m
}

// state is all that can be seen of a machine.
type state struct {
	regs  [16]uint64
	ip    uint64
	flags api.Flags
}

func look(c *cpu.Cpu) state {
	s := state{ip: c.IP(), flags: c.Flags()}
	for i := range s.regs {
		s.regs[i] = c.Reg(i)
	}
	return s
}

func length(t *testing.T, x api.Ins) uint64 {
	t.Helper()
	b, ok := dec.Encode(x)
	if !ok {
		t.Fatalf("%+v", x)
	}
	return uint64(len(b))
}

func word(t *testing.T, m *vmem.Mem, at uint64) uint64 {
	t.Helper()
	b, ok := m.Peek(at, 8)
	if !ok {
		t.Fatalf("%x", at)
	}
	v, _ := le.U64(b, 0)
	return v
}

// step does one instruction, and asks for what is changed: want starts as what it was, with IP behind it.
func step(t *testing.T, x api.Ins, ready func(c *cpu.Cpu, m *vmem.Mem), want func(s *state)) (*cpu.Cpu, *vmem.Mem) {
	t.Helper()
	c, m := machine(t, x)
	if ready != nil {
		ready(c, m)
	}
	s := look(c)
	s.ip += length(t, x)
	if want != nil {
		want(&s)
	}
	if n, e := c.Step(); n != 0 || e != api.OK {
		t.Fatalf("%+v: %d %v", x, n, e)
	}
	if got := look(c); got != s {
		t.Errorf("%+v: %+v, not %+v", x, got, s)
	}
	return c, m
}

func TestANewOne(t *testing.T) {
	c := cpu.New(vmem.New(1))
	if look(c) != (state{}) || c.Fault() != (api.Fault{}) {
		t.Error(look(c), c.Fault())
	}
	for _, i := range []int{-1, 16, math.MinInt, math.MaxInt} {
		c.Set(i, 7)
		if c.Reg(i) != 0 {
			t.Error(i)
		}
	}
	if look(c) != (state{}) {
		t.Error("a register that is none is set")
	}
	for i := range 16 {
		c.Set(i, uint64(i)<<60|1)
	}
	for i := range 16 {
		if c.Reg(i) != uint64(i)<<60|1 {
			t.Error(i)
		}
	}
	c.Jump(math.MaxUint64)
	if c.IP() != math.MaxUint64 {
		t.Error("Jump")
	}
}

func TestMoves(t *testing.T) {
	step(t, api.Ins{Op: api.ONop}, nil, nil)
	for r := range 16 {
		step(t, api.Ins{Op: api.OMovI, A: r, Imm: 0xFEDCBA9876543210}, nil, func(s *state) { s.regs[r] = 0xFEDCBA9876543210 })
		step(t, api.Ins{Op: api.OMovL, A: r, Imm: 0xFFFFFFFF}, nil, func(s *state) { s.regs[r] = 0xFFFFFFFF })
		step(t, api.Ins{Op: api.OLea, A: r, Disp: -0x1000}, nil, func(s *state) { s.regs[r] = code + 7 - 0x1000 })
		for k := range 16 {
			step(t, api.Ins{Op: api.OMov, A: r, B: k}, nil, func(s *state) { s.regs[k] = s.regs[r] })
		}
	}
}

func TestReckoning(t *testing.T) {
	numbers := []uint64{0, 1, 5, 1 << 63, math.MaxUint64, 1<<63 - 1}
	check := func(x api.Ins, a, b, by uint64) {
		t.Helper()
		step(t, x, func(c *cpu.Cpu, m *vmem.Mem) {
			c.Set(x.A, a)
			c.Set(x.B, b)
		}, func(s *state) { s.regs[x.B], s.flags = alu.Do(x.Alu, s.regs[x.B], by, s.flags) })
	}
	for _, a := range numbers {
		for _, b := range numbers {
			for _, op := range []int{api.AAdd, api.ASub, api.AAnd, api.AOr, api.AXor, api.ACmp, api.ATest} {
				check(api.Ins{Op: api.OAlu, Alu: op, A: 9, B: 2}, a, b, a)
				check(api.Ins{Op: api.OAlu, Alu: op, A: 3, B: 3}, b, b, b)
			}
		}
		for _, imm := range []uint64{0, 1, 127, math.MaxUint64, math.MaxUint64 - 127} {
			for _, op := range []int{api.AAdd, api.ASub, api.ACmp} {
				check(api.Ins{Op: api.OAluI, Alu: op, B: 10, Imm: imm}, 0, a, imm)
			}
		}
		for _, n := range []uint64{0, 1, 63, 64, 255} {
			check(api.Ins{Op: api.OShift, Alu: api.AShl, B: 5, Imm: n}, 0, a, n)
			check(api.Ins{Op: api.OShift, Alu: api.AShr, B: 5, Imm: n}, 0, a, n)
		}
		check(api.Ins{Op: api.OOne, Alu: api.AInc, B: 11}, 0, a, 0)
		check(api.Ins{Op: api.OOne, Alu: api.ADec, B: 11}, 0, a, 0)
	}
}

func TestFlagsStay(t *testing.T) {
	// xor sets Z; inc keeps C, which sub sets; moves change none of them.
	c, _ := machine(t, api.Ins{Op: api.OMovL, A: 0, Imm: 0}, api.Ins{Op: api.OAluI, Alu: api.ASub, B: 0, Imm: 1}, api.Ins{Op: api.OOne, Alu: api.AInc, B: 0}, api.Ins{Op: api.OMovI, A: 1, Imm: 5}, api.Ins{Op: api.OMov, A: 1, B: 2})
	for i, want := range []api.Flags{{}, {S: true, C: true}, {Z: true, C: true}, {Z: true, C: true}, {Z: true, C: true}} {
		if _, e := c.Step(); e != api.OK || c.Flags() != want {
			t.Error(i, e, c.Flags())
		}
	}
}

func TestStack(t *testing.T) {
	for r := range 16 {
		var old uint64
		_, m := step(t, api.Ins{Op: api.OPush, A: r}, nil, func(s *state) { old = s.regs[r]; s.regs[4] -= 8 })
		if v := word(t, m, top-72); v != old {
			t.Error("push", r, v)
		}
		step(t, api.Ins{Op: api.OPop, A: r}, func(c *cpu.Cpu, m *vmem.Mem) { m.Poke(top-64, le.Bytes(0x1122334455667788, 8)) }, func(s *state) {
			s.regs[4] += 8
			s.regs[r] = 0x1122334455667788
		})
	}
	step(t, api.Ins{Op: api.ORet}, func(c *cpu.Cpu, m *vmem.Mem) { m.Poke(top-64, le.Bytes(0xABCDEF, 8)) }, func(s *state) {
		s.regs[4] += 8
		s.ip = 0xABCDEF
	})
	_, m := step(t, api.Ins{Op: api.OCall, Disp: -77}, nil, func(s *state) {
		s.regs[4] -= 8
		s.ip = code + 5 - 77
	})
	if v := word(t, m, top-72); v != code+5 {
		t.Error("call", v)
	}
	_, m = step(t, api.Ins{Op: api.OCallR, Disp: data - code - 6 + 24}, func(c *cpu.Cpu, m *vmem.Mem) { m.Poke(data+24, le.Bytes(0x7777, 8)) }, func(s *state) {
		s.regs[4] -= 8
		s.ip = 0x7777
	})
	if v := word(t, m, top-72); v != code+6 {
		t.Error("callr", v)
	}
}

func TestCallRReadsAheadOfPushing(t *testing.T) {
	// The place that is read is the one that is pushed to.
	step(t, api.Ins{Op: api.OCallR, Disp: stack - code - 6}, func(c *cpu.Cpu, m *vmem.Mem) {
		m.Poke(stack, le.Bytes(0x5555, 8))
		c.Set(4, stack+8)
	}, func(s *state) {
		s.regs[4] = stack
		s.ip = 0x5555
	})
}

func TestJumps(t *testing.T) {
	for _, d := range []int{0, 1, -1, 0x12345, -0x12345, math.MaxInt32, math.MinInt32} {
		step(t, api.Ins{Op: api.OJmp, Disp: d}, nil, func(s *state) { s.ip = code + 5 + uint64(d) })
	}
	for _, d := range []int{0, 127, -128, -2} {
		step(t, api.Ins{Op: api.OJmpS, Disp: d}, nil, func(s *state) { s.ip = code + 2 + uint64(d) })
	}
	step(t, api.Ins{Op: api.OJmpR, Disp: data - code - 6}, func(c *cpu.Cpu, m *vmem.Mem) { m.Poke(data, le.Bytes(math.MaxUint64, 8)) }, func(s *state) { s.ip = math.MaxUint64 })
}

func TestConditions(t *testing.T) {
	for _, cc := range []int{2, 3, 4, 5, 8, 9, 12, 13} {
		for _, x := range [][2]uint64{{1, 2}, {2, 1}, {3, 3}, {1 << 63, 1}, {1, 1 << 63}, {math.MaxUint64, 1}} {
			c, _ := machine(t, api.Ins{Op: api.OAlu, Alu: api.ACmp, A: 1, B: 0}, api.Ins{Op: api.OJcc, CC: cc, Disp: -100})
			c.Set(0, x[0])
			c.Set(1, x[1])
			c.Step()
			s := look(c)
			s.ip += 2
			if alu.Cond(cc, s.flags) {
				s.ip -= 100
			}
			if _, e := c.Step(); e != api.OK || look(c) != s {
				t.Error(cc, x, e)
			}
		}
	}
}

func TestMemory(t *testing.T) {
	const v = 0x8877665544332211
	for r := range 16 {
		step(t, api.Ins{Op: api.OLoadR, A: r, Disp: data - code - 7 + 3}, func(c *cpu.Cpu, m *vmem.Mem) { m.Poke(data+3, le.Bytes(v, 8)) }, func(s *state) { s.regs[r] = v })
		var old uint64
		_, m := step(t, api.Ins{Op: api.OStoreR, A: r, Disp: data - code - 7 + 5}, func(c *cpu.Cpu, m *vmem.Mem) { old = c.Reg(r) }, nil)
		if word(t, m, data+5) != old {
			t.Error("storer", r)
		}
		for b := range 16 {
			if b%8 == 4 {
				continue
			}
			for _, d := range []int{0, 40, -40} {
				at := uint64(data + 100 + d)
				step(t, api.Ins{Op: api.OLoad, A: r, B: b, Disp: d}, func(c *cpu.Cpu, m *vmem.Mem) {
					c.Set(b, data+100)
					m.Poke(at, le.Bytes(v, 8))
				}, func(s *state) { s.regs[r] = v })
				_, m := step(t, api.Ins{Op: api.OStore, A: r, B: b, Disp: d}, func(c *cpu.Cpu, m *vmem.Mem) {
					c.Set(b, data+100)
					old = c.Reg(r)
				}, nil)
				if word(t, m, at) != old {
					t.Error("store", r, b, d)
				}
			}
		}
	}
}

func TestAddressesGoRound(t *testing.T) {
	step(t, api.Ins{Op: api.OLoad, A: 0, B: 1, Disp: data + 16}, func(c *cpu.Cpu, m *vmem.Mem) {
		c.Set(1, math.MaxUint64-15)
		m.Poke(data, le.Bytes(42, 8))
	}, func(s *state) { s.regs[0] = 42 })
	step(t, api.Ins{Op: api.OJmp, Disp: -code - 6}, nil, func(s *state) { s.ip = math.MaxUint64 })
}

func TestInt(t *testing.T) {
	for _, n := range []uint64{0, 32, 255} {
		x := api.Ins{Op: api.OInt, Imm: n}
		c, _ := machine(t, x)
		s := look(c)
		s.ip += 2
		if k, e := c.Step(); e != api.OK || k != int(n)+256 || look(c) != s {
			t.Error(n, k, e)
		}
	}
}

func TestErrorsOfDecoding(t *testing.T) {
	for _, b := range [][]byte{{0x0F}, {0x48, 0x90}, {0x48, 0x8B, 0x84}, {0x71}} {
		c, m := machine(t)
		m.Poke(code, b)
		s := look(c)
		if n, e := c.Step(); n != 0 || e != api.ErrOp || look(c) != s || c.Fault() != (api.Fault{}) {
			t.Errorf("%x: %d %v", b, n, e)
		}
	}
}

func TestFetchIsByteByByte(t *testing.T) {
	c, m := machine(t)
	m.Poke(code+page-1, []byte{0x90})
	c.Jump(code + page - 1)
	if _, e := c.Step(); e != api.OK || c.IP() != code+page {
		t.Error("an instruction at the end", e)
	}
	s := look(c)
	if _, e := c.Step(); e != api.ErrFault || c.Fault() != (api.Fault{Kind: api.FFree, At: code + page}) || look(c) != s {
		t.Error("behind it", e, c.Fault())
	}
	m.Poke(code+page-2, []byte{0x48, 0x01})
	c.Jump(code + page - 2)
	if _, e := c.Step(); e != api.ErrFault || c.Fault() != (api.Fault{Kind: api.FFree, At: code + page}) || c.IP() != code+page-2 {
		t.Error("one that is not whole", e, c.Fault())
	}
	m.Map(code+page, 1, api.PX)
	m.Poke(code+page, []byte{0xC8})
	if _, e := c.Step(); e != api.OK || c.IP() != code+page+1 {
		t.Error("one over two pages", e)
	}
	m.Poke(code+page-1, []byte{0x0F})
	m.Unmap(code+page, 1)
	c.Jump(code + page - 1)
	if _, e := c.Step(); e != api.ErrOp {
		t.Error("one that is none", e)
	}
}

func TestFetchAsksProtections(t *testing.T) {
	c, m := machine(t, api.Ins{Op: api.ONop})
	m.Protect(code, 1, api.PR|api.PW)
	s := look(c)
	if _, e := c.Step(); e != api.ErrFault || c.Fault() != (api.Fault{Kind: api.FExec, At: code}) || look(c) != s {
		t.Error(e, c.Fault())
	}
	m.Protect(code, 1, api.PX|api.PG)
	if _, e := c.Step(); e != api.ErrFault || c.Fault() != (api.Fault{Kind: api.FGuard, At: code}) || look(c) != s {
		t.Error(e, c.Fault())
	}
	if _, e := c.Step(); e != api.OK || c.Fault() != (api.Fault{Kind: api.FGuard, At: code}) {
		t.Error("the last fault stays", e, c.Fault())
	}
}

func TestFaultsChangeNothing(t *testing.T) {
	for _, x := range []struct {
		x    api.Ins
		free func(c *cpu.Cpu)
		kind int
		at   uint64
	}{
		{api.Ins{Op: api.OPush, A: 1}, func(c *cpu.Cpu) { c.Set(4, stack+4) }, api.FFree, stack - 4},
		{api.Ins{Op: api.OPush, A: 4}, func(c *cpu.Cpu) { c.Set(4, code+16) }, api.FWrite, code + 8},
		{api.Ins{Op: api.OPush, A: 1}, func(c *cpu.Cpu) { c.Set(4, 0) }, api.FFree, math.MaxUint64 - 7},
		{api.Ins{Op: api.OPop, A: 1}, func(c *cpu.Cpu) { c.Set(4, top-4) }, api.FFree, top},
		{api.Ins{Op: api.OPop, A: 4}, func(c *cpu.Cpu) { c.Set(4, 0) }, api.FFree, 0},
		{api.Ins{Op: api.ORet}, func(c *cpu.Cpu) { c.Set(4, top) }, api.FFree, top},
		{api.Ins{Op: api.OCall, Disp: 9}, func(c *cpu.Cpu) { c.Set(4, stack) }, api.FFree, stack - 8},
		{api.Ins{Op: api.OCallR, Disp: 0x5000}, nil, api.FFree, code + 6 + 0x5000},
		{api.Ins{Op: api.OCallR, Disp: data - code - 6}, func(c *cpu.Cpu) { c.Set(4, data+0x2000) }, api.FFree, data + 0x1FF8},
		{api.Ins{Op: api.OJmpR, Disp: 0x5000}, nil, api.FFree, code + 6 + 0x5000},
		{api.Ins{Op: api.OLoad, A: 1, B: 2, Disp: -1}, func(c *cpu.Cpu) { c.Set(2, data) }, api.FFree, data - 1},
		{api.Ins{Op: api.OStore, A: 1, B: 2, Disp: 8}, func(c *cpu.Cpu) { c.Set(2, code) }, api.FWrite, code + 8},
		{api.Ins{Op: api.OLoadR, A: 3, Disp: 0x5000}, nil, api.FFree, code + 7 + 0x5000},
		{api.Ins{Op: api.OStoreR, A: 3, Disp: 0}, nil, api.FWrite, code + 7},
	} {
		c, m := machine(t, x.x)
		if x.free != nil {
			x.free(c)
		}
		s, before := look(c), m.Copy()
		if n, e := c.Step(); n != 0 || e != api.ErrFault || c.Fault() != (api.Fault{Kind: x.kind, At: x.at}) || look(c) != s {
			t.Errorf("%+v: %d %v %+v %+v", x.x, n, e, c.Fault(), look(c))
		}
		for _, at := range before.Pages() {
			a, _ := m.Peek(at, page)
			b, _ := before.Peek(at, page)
			if string(a) != string(b) {
				t.Errorf("%+v: memory", x.x)
			}
		}
	}
}

func TestAReadThatMayNotBe(t *testing.T) {
	c, m := machine(t, api.Ins{Op: api.OLoadR, A: 0, Disp: data - code - 7})
	m.Protect(data, 1, api.PW|api.PX)
	if _, e := c.Step(); e != api.ErrFault || c.Fault() != (api.Fault{Kind: api.FRead, At: data}) {
		t.Error(e, c.Fault())
	}
	m.Protect(data, 1, api.PR|api.PG)
	s := look(c)
	if _, e := c.Step(); e != api.ErrFault || c.Fault() != (api.Fault{Kind: api.FGuard, At: data}) || look(c) != s {
		t.Error(e, c.Fault())
	}
	if p, _ := m.Prot(data); p != api.PR {
		t.Error("the guard stays", p)
	}
	if _, e := c.Step(); e != api.OK || c.Reg(0) != 0 {
		t.Error(e)
	}
}

func TestAProgram(t *testing.T) {
	// The sum of 1 to 10, by a loop.
	c, _ := machine(t,
		api.Ins{Op: api.OMovL, A: 0, Imm: 0}, api.Ins{Op: api.OMovL, A: 1, Imm: 10},
		api.Ins{Op: api.OAlu, Alu: api.AAdd, A: 1, B: 0}, api.Ins{Op: api.OOne, Alu: api.ADec, B: 1}, api.Ins{Op: api.OJcc, CC: api.CNE, Disp: -8}, api.Ins{Op: api.OInt, Imm: 1})
	for range 100 {
		n, e := c.Step()
		if e != api.OK {
			t.Fatal(e, c.Fault())
		}
		if n != 0 {
			if n != 257 || c.Reg(0) != 55 || c.Reg(1) != 0 || !c.Flags().Z {
				t.Error(n, c.Reg(0))
			}
			return
		}
	}
	t.Error("no end")
}

func TestMachinesAreApart(t *testing.T) {
	m := memory(t, api.Ins{Op: api.OMovL, A: 5, Imm: 9})
	a, b := cpu.New(m), cpu.New(m)
	a.Jump(code)
	a.Step()
	if a.Reg(5) != 9 || b.Reg(5) != 0 || b.IP() != 0 {
		t.Error("apart")
	}
}
