package run_test

import (
	"math"
	"sync"
	"sync/atomic"
	"testing"

	"slipway/api"
	"slipway/cpu"
	"slipway/dec"
	"slipway/le"
	"slipway/run"
	"slipway/vmem"
)

const (
	code  = 0x10000
	stack = 0x20000
	top   = stack + 4096 - 64
)

func memory(t *testing.T, l ...api.Ins) *vmem.Mem {
	t.Helper()
	m := vmem.New(16)
	m.Map(code, 1, api.PR|api.PX)
	m.Map(stack, 1, api.PR|api.PW)
	at := uint64(code)
	for _, x := range l {
		b, ok := dec.Encode(x)
		if !ok {
			t.Fatalf("%+v", x)
		}
		m.Poke(at, b)
		at += uint64(len(b))
	}
	return m
}

var (
	ret  = api.Ins{Op: api.ORet}
	loop = api.Ins{Op: api.OJmpS, Disp: -2}
)

func movl(a int, v uint64) api.Ins  { return api.Ins{Op: api.OMovL, A: a, Imm: v} }
func ask(n uint64) api.Ins          { return api.Ins{Op: api.OInt, Imm: n} }
func add(a, b int) api.Ins          { return api.Ins{Op: api.OAlu, Alu: api.AAdd, A: a, B: b} }
func take(n int, c *cpu.Cpu) bool   { return true }
func refuse(n int, c *cpu.Cpu) bool { return false }
func none() [3]uint64               { return [3]uint64{} }
func fuel(n int) *run.Fuel          { return run.NewFuel(n) }
func word(m *vmem.Mem, at uint64) uint64 {
	b, _ := m.Peek(at, 8)
	v, _ := le.U64(b, 0)
	return v
}

func TestFuel(t *testing.T) {
	for n, want := range map[int]int{-1: 0, math.MinInt: 0, 0: 0, 1: 1, 5: 5, 1000: 1000} {
		f := run.NewFuel(n)
		if f.Left() != want {
			t.Error(n, f.Left())
		}
		for i := range want {
			if !f.Take() || f.Left() != want-i-1 {
				t.Fatal(n, i, f.Left())
			}
		}
		for range 3 {
			if f.Take() || f.Left() != 0 {
				t.Error(n, "one more")
			}
		}
	}
	f := run.NewFuel(math.MaxInt)
	if f.Left() != math.MaxInt || !f.Take() || f.Left() != math.MaxInt-1 {
		t.Error(f.Left())
	}
}

func TestFuelIsCountedExactly(t *testing.T) {
	f := run.NewFuel(1000)
	var taken atomic.Int64
	var w sync.WaitGroup
	for range 8 {
		w.Add(1)
		go func() {
			defer w.Done()
			for range 500 {
				if f.Take() {
					taken.Add(1)
				}
			}
		}()
	}
	w.Wait()
	if taken.Load() != 1000 || f.Left() != 0 {
		t.Error(taken.Load(), f.Left())
	}
}

func TestGate(t *testing.T) {
	if run.Gate() != 1<<46+4080 {
		t.Error(run.Gate())
	}
}

func TestCallReturns(t *testing.T) {
	m := memory(t, ret)
	f := fuel(10)
	if v, e := run.Call(m, code, top, [3]uint64{7, 8, 9}, f, nil); v != 0 || e != api.OK || f.Left() != 9 {
		t.Error(v, e, f.Left())
	}
	if word(m, top-8) != run.Gate() {
		t.Error("where it returns to")
	}
	m = memory(t, add(1, 0), add(2, 0), add(2, 0), add(8, 0), add(8, 0), add(8, 0), ret)
	if v, e := run.Call(m, code, top, [3]uint64{1, 10, 100}, fuel(7), nil); v != 321 || e != api.OK {
		t.Error(v, e)
	}
}

func TestCallOfTheGate(t *testing.T) {
	f := fuel(0)
	if v, e := run.Call(memory(t), run.Gate(), top, none(), f, nil); v != 0 || e != api.OK {
		t.Error(v, e)
	}
}

func TestRegistersAtTheBeginning(t *testing.T) {
	seen := [16]uint64{}
	var flags api.Flags
	gate := func(n int, c *cpu.Cpu) bool {
		for i := range seen {
			seen[i] = c.Reg(i)
		}
		flags = c.Flags()
		return true
	}
	if _, e := run.Call(memory(t, ask(0), ret), code, top, [3]uint64{11, 22, math.MaxUint64}, fuel(9), gate); e != api.OK {
		t.Fatal(e)
	}
	if want := [16]uint64{1: 11, 2: 22, 4: top - 8, 8: math.MaxUint64}; seen != want || flags != (api.Flags{}) {
		t.Error(seen, flags)
	}
}

func TestGates(t *testing.T) {
	for _, n := range []uint64{0, 1, 32, 255} {
		asked := []int{}
		gate := func(k int, c *cpu.Cpu) bool {
			asked = append(asked, k)
			c.Set(0, c.Reg(0)+5)
			return true
		}
		v, e := run.Call(memory(t, movl(0, 7), ask(n), ask(n), ret), code, top, none(), fuel(9), gate)
		if v != 17 || e != api.OK || len(asked) != 2 || asked[0] != int(n) {
			t.Error(n, v, e, asked)
		}
	}
	for i, gate := range []func(int, *cpu.Cpu) bool{nil, refuse, func(int, *cpu.Cpu) bool { panic("gate") }} {
		if v, e := run.Call(memory(t, movl(0, 7), ask(1), ret), code, top, none(), fuel(9), gate); i < 2 && (v != 0 || e != api.ErrGate) {
			t.Error(i, v, e)
		}
	}
	// A gate may send the machine elsewhere.
	gate := func(n int, c *cpu.Cpu) bool {
		c.Jump(run.Gate())
		return true
	}
	if v, e := run.Call(memory(t, movl(0, 7), ask(1), loop), code, top, none(), fuel(9), gate); v != 7 || e != api.OK {
		t.Error(v, e)
	}
}

func TestErrors(t *testing.T) {
	if v, e := run.Call(memory(t, movl(0, 7), api.Ins{Op: api.OLoadR, A: 1, Disp: 0x5000}, ret), code, top, none(), fuel(9), take); v != 0 || e != api.ErrFault {
		t.Error("a read", v, e)
	}
	m := memory(t, movl(0, 7))
	m.Poke(code+5, []byte{0x0F})
	if v, e := run.Call(m, code, top, none(), fuel(9), take); v != 0 || e != api.ErrOp {
		t.Error("no instruction", v, e)
	}
	for _, at := range []uint64{0, stack, code + 4096, math.MaxUint64, 1 << 47} {
		if v, e := run.Call(memory(t, ret), at, top, none(), fuel(9), take); v != 0 || e != api.ErrFault {
			t.Errorf("%x: %d %v", at, v, e)
		}
	}
}

func TestTheStackMustBeThere(t *testing.T) {
	for _, sp := range []uint64{0, 4, 8, stack, stack + 4, stack + 4096 + 4, math.MaxUint64, 1 << 47} {
		f := fuel(9)
		if v, e := run.Call(memory(t, ret), code, sp, none(), f, take); v != 0 || e != api.ErrFault || f.Left() != 9 {
			t.Errorf("%x: %d %v %d", sp, v, e, f.Left())
		}
	}
	if _, e := run.Call(memory(t, ret), code, stack+4096, none(), fuel(9), take); e != api.OK {
		t.Error("at the end", e)
	}
	if _, e := run.Call(memory(t, ret), code, stack+8, none(), fuel(9), take); e != api.OK {
		t.Error("at the beginning", e)
	}
}

func TestWhateverIsRunEnds(t *testing.T) {
	for n := range 50 {
		f := fuel(n)
		if v, e := run.Call(memory(t, loop), code, top, none(), f, take); v != 0 || e != api.ErrFuel || f.Left() != 0 {
			t.Error(n, v, e, f.Left())
		}
	}
	// Just as many steps as there are: each instruction is one.
	for n := range 6 {
		f := fuel(n)
		want := api.ErrFuel
		if n >= 4 {
			want = api.OK
		}
		if _, e := run.Call(memory(t, movl(0, 7), ask(3), movl(1, 2), ret), code, top, none(), f, take); e != want || f.Left() != max(n-4, 0) {
			t.Error(n, e, f.Left())
		}
	}
	// Fuel is asked for ahead of the step that would fail.
	if _, e := run.Call(memory(t), 0, top, none(), fuel(0), take); e != api.ErrFuel {
		t.Error(e)
	}
	// What one call takes, another has not.
	f := fuel(3)
	m := memory(t, movl(0, 7), ret)
	run.Call(m, code, top, none(), f, take)
	if _, e := run.Call(m, code, top, none(), f, take); e != api.ErrFuel {
		t.Error(e)
	}
}
