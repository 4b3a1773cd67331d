package gates_test

import (
	"math"
	"slices"
	"testing"

	"slipway/cpu"
	"slipway/gates"
	"slipway/vmem"
)

func TestSlots(t *testing.T) {
	s := gates.NewSlots()
	for _, th := range []int{1, 2, 100, math.MaxInt} {
		for i := range 32 {
			if s.Get(th, i) != 0 {
				t.Error("not 0 at first", th, i)
			}
			if !s.Set(th, i, uint64(th)<<8|uint64(i)) {
				t.Error(th, i)
			}
		}
	}
	for _, th := range []int{1, 2, 100, math.MaxInt} {
		for i := range 32 {
			if s.Get(th, i) != uint64(th)<<8|uint64(i) {
				t.Error(th, i, s.Get(th, i))
			}
		}
	}
	s.Set(1, 0, math.MaxUint64)
	if s.Get(1, 0) != math.MaxUint64 || s.Get(2, 0) != 2<<8 {
		t.Error("threads are not apart")
	}
}

func TestSlotsThatAreNone(t *testing.T) {
	s := gates.NewSlots()
	for _, x := range [][2]int{{1, -1}, {1, 32}, {1, math.MaxInt}, {1, math.MinInt}, {0, 0}, {-1, 0}, {math.MinInt, 31}, {0, 99}} {
		if s.Set(x[0], x[1], 7) || s.Get(x[0], x[1]) != 0 {
			t.Error(x)
		}
	}
	for i := range 32 {
		if s.Get(1, i) != 0 {
			t.Error("set", i)
		}
	}
}

func TestClearAndFree(t *testing.T) {
	fill := func() *gates.Slots {
		s := gates.NewSlots()
		for th := 1; th <= 3; th++ {
			for i := range 32 {
				s.Set(th, i, 9)
			}
		}
		return s
	}
	s := fill()
	s.Clear(2)
	for th := 1; th <= 3; th++ {
		for i := range 32 {
			if (s.Get(th, i) == 0) != (th == 2) {
				t.Error("Clear", th, i)
			}
		}
	}
	s = fill()
	s.Free(5)
	for th := 1; th <= 3; th++ {
		for i := range 32 {
			if (s.Get(th, i) == 0) != (i == 5) {
				t.Error("Free", th, i)
			}
		}
	}
	s = fill()
	for _, i := range []int{-1, 32, math.MinInt, math.MaxInt} {
		s.Free(i)
	}
	for _, th := range []int{0, -1, 4, math.MinInt, math.MaxInt} {
		s.Clear(th)
	}
	for th := 1; th <= 3; th++ {
		for i := range 32 {
			if s.Get(th, i) != 9 {
				t.Error(th, i)
			}
		}
	}
	s.Clear(2)
	if !s.Set(2, 1, 4) || s.Get(2, 1) != 4 {
		t.Error("set after Clear")
	}
}

func machine(one, two uint64) *cpu.Cpu {
	c := cpu.New(vmem.New(1))
	for i := range 16 {
		c.Set(i, 1000+uint64(i))
	}
	c.Set(1, one)
	c.Set(2, two)
	c.Jump(77)
	return c
}

// others tells whether just register 0 can have been changed.
func others(c *cpu.Cpu, one, two uint64) bool {
	for i := 3; i < 16; i++ {
		if c.Reg(i) != 1000+uint64(i) {
			return false
		}
	}
	return c.Reg(1) == one && c.Reg(2) == two && c.IP() == 77
}

func TestSay(t *testing.T) {
	var said []uint64
	s := gates.NewSlots()
	c := machine(math.MaxUint64, 5)
	if !gates.Do(32, c, s, 1, func(v uint64) { said = append(said, v) }) || !slices.Equal(said, []uint64{math.MaxUint64}) || c.Reg(0) != 1000 || !others(c, math.MaxUint64, 5) {
		t.Error(said, c.Reg(0))
	}
	if !gates.Do(32, c, s, 1, nil) || c.Reg(0) != 1000 {
		t.Error("nobody to say it to")
	}
}

func TestGetAndSet(t *testing.T) {
	s := gates.NewSlots()
	for _, x := range []struct {
		index  uint64
		thread int
		want   uint64
	}{{0, 1, 1}, {31, 1, 1}, {32, 1, 0}, {math.MaxUint64, 1, 0}, {1 << 63, 1, 0}, {1 << 32, 1, 0}, {1<<32 + 3, 1, 0}, {3, 0, 0}, {3, -1, 0}, {7, 9, 1}} {
		c := machine(x.index, 55)
		if !gates.Do(34, c, s, x.thread, nil) || c.Reg(0) != x.want || !others(c, x.index, 55) {
			t.Error("set", x, c.Reg(0))
		}
		c = machine(x.index, 66)
		if !gates.Do(33, c, s, x.thread, nil) || c.Reg(0) != 55*x.want || !others(c, x.index, 66) {
			t.Error("get", x, c.Reg(0))
		}
	}
	if s.Get(1, 0) != 55 || s.Get(1, 31) != 55 || s.Get(9, 7) != 55 || s.Get(1, 7) != 0 || s.Get(9, 0) != 0 || s.Get(1, 3) != 0 {
		t.Error("slots")
	}
}

func TestOtherGates(t *testing.T) {
	for _, n := range []int{99, 0, 31, 35, 255, 256 + 32, -32, math.MinInt, math.MaxInt} {
		said := 0
		c := machine(0, 0)
		if gates.Do(n, c, gates.NewSlots(), 1, func(uint64) { said++ }) || said != 0 || c.Reg(0) != 1000 || !others(c, 0, 0) {
			t.Error(n)
		}
	}
}
