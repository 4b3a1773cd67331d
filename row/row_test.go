package row_test

import (
	"math"
	"testing"

	"slipway/row"
)

func TestIn(t *testing.T) {
	b := make([]byte, 8)
	for _, x := range []struct {
		at, n int
		want  bool
	}{
		{0, 0, true}, {0, 8, true}, {0, 9, false}, {8, 0, true}, {9, 0, false}, {7, 1, true}, {8, 1, false}, {-1, 1, false}, {-1, 0, false}, {0, -1, false},
		{math.MaxInt, 1, false}, {1, math.MaxInt, false}, {math.MaxInt, math.MaxInt, false}, {math.MinInt, 8, false}, {0, math.MinInt, false}, {math.MinInt, math.MinInt, false},
	} {
		if row.In(b, x.at, x.n) != x.want || row.Noughts(b, x.at, x.n) != x.want {
			t.Error(x)
		}
	}
	if !row.In(nil, 0, 0) || row.In(nil, 0, 1) {
		t.Error("of nothing")
	}
}

func TestNoughts(t *testing.T) {
	b := []byte{0, 0, 1, 0, 0}
	for at := range 5 {
		for n := 0; at+n <= 5; n++ {
			if row.Noughts(b, at, n) != (at > 2 || at+n <= 2) {
				t.Error(at, n)
			}
		}
	}
}
