package room_test

import (
	"math"
	"slices"
	"testing"

	"slipway/room"
	"slipway/vmem"
)

const (
	page  = 4096
	grain = 65536
	top   = 1 << 47
	low   = 1 << 24
)

func TestIsInAnEmptyOne(t *testing.T) {
	m := vmem.New(1024)
	for _, x := range []struct {
		at   uint64
		n    int
		want bool
	}{
		{0, 1, false}, {grain, 1, true}, {grain, 1024, true}, {grain, 1025, false}, {grain, 0, false}, {grain, -1, false}, {grain, math.MaxInt, false},
		{grain, math.MinInt, false}, {grain + page, 1, false}, {grain - 1, 1, false}, {grain + 1, 1, false}, {32768, 1, false},
		{low, 1024, true}, {top - grain, 16, true}, {top - grain, 17, false}, {top - 1024*page, 1024, true}, {top - 1023*page, 1023, false},
		{top, 1, false}, {1 << 63, 1, false}, {math.MaxUint64 - grain + 1, 1, false}, {math.MaxUint64 - grain + 1, 1024, false},
	} {
		if room.Is(m, x.at, x.n) != x.want {
			t.Error(x)
		}
	}
}

func TestIsAsksEachPage(t *testing.T) {
	for k := range 8 {
		m := vmem.New(1024)
		m.Map(3*grain+uint64(k)*page, 1, 0)
		for n := 1; n <= 10; n++ {
			if room.Is(m, 3*grain, n) != (n <= k) {
				t.Error(k, n)
			}
		}
		if !room.Is(m, 2*grain, 16+k) || room.Is(m, 2*grain, 17+k) {
			t.Error(k, "from the one ahead")
		}
	}
}

func TestFindInAnEmptyOne(t *testing.T) {
	m := vmem.New(1024)
	for n, want := range map[int]bool{1: true, 16: true, 17: true, 1024: true, 1025: false, 0: false, -1: false, math.MaxInt: false, math.MinInt: false} {
		at, ok := room.Find(m, n)
		if ok != want || ok && at != grain || !ok && at != 0 {
			t.Error(n, at, ok)
		}
	}
}

func TestFindTellsTheLeast(t *testing.T) {
	m := vmem.New(1024)
	m.Map(grain+5*page, 1, 1)
	m.Map(3*grain, 1, 1)
	for n, want := range map[int]uint64{1: grain, 5: grain, 6: 2 * grain, 16: 2 * grain, 17: 4 * grain, 1024: 4 * grain} {
		if at, ok := room.Find(m, n); !ok || at != want {
			t.Error(n, at)
		}
	}
	if !slices.Equal(m.Pages(), []uint64{grain + 5*page, 3 * grain}) {
		t.Error("changed", m.Pages())
	}
}

func TestFindEndsBelow(t *testing.T) {
	m := vmem.New(1024)
	// One page at each place but the last: what is left ends just at the end.
	for at := uint64(grain); at < low-grain; at += grain {
		m.Map(at, 1, 1)
	}
	if at, ok := room.Find(m, 16); !ok || at != low-grain {
		t.Error(at, ok)
	}
	if at, ok := room.Find(m, 17); ok || at != 0 {
		t.Error(at)
	}
	m.Map(low-grain, 1, 1)
	if at, ok := room.Find(m, 1); ok || at != 0 {
		t.Error(at)
	}
	if !room.Is(m, low, 1) {
		t.Error("there is room beyond, too")
	}
}

func TestWhereThereIsRoomItIsFound(t *testing.T) {
	m := vmem.New(1024)
	for n := 1; n <= 40; n += 3 {
		at, ok := room.Find(m, n)
		if !ok || !room.Is(m, at, n) {
			t.Fatal(n, at)
		}
		for less := uint64(0); less < at; less += grain {
			if room.Is(m, less, n) {
				t.Fatal(n, less)
			}
		}
		m.Map(at, n, 1)
	}
}
