package le_test

import (
	"bytes"
	"math"
	"testing"

	"slipway/le"
)

// places are edges at which no place of a short row lies.
var places = []int{-1, math.MinInt, math.MinInt + 1, math.MaxInt, math.MaxInt - 1, math.MaxInt - 7, 1 << 62}

func TestNumbersAreReadLowestFirst(t *testing.T) {
	b := []byte{1, 2, 3, 4, 5, 6, 7, 0xF8, 9}
	if v, ok := le.U16([]byte{1, 2}, 0); !ok || v != 513 {
		t.Error("U16", v, ok)
	}
	if v, ok := le.U16(b, 7); !ok || v != 0x09F8 {
		t.Error("U16 at the end", v, ok)
	}
	if v, ok := le.U32(b, 4); !ok || v != 0xF8070605 {
		t.Error("U32 with its highest bit", v, ok)
	}
	if v, ok := le.U32([]byte{255, 255, 255, 255}, 0); !ok || v != math.MaxUint32 {
		t.Error("U32 of all ones", v, ok)
	}
	if v, ok := le.U64(b, 0); !ok || v != 0xF807060504030201 {
		t.Error("U64", v, ok)
	}
	if v, ok := le.U64(b, 1); !ok || v != 0x09F8070605040302 {
		t.Error("U64 at the end", v, ok)
	}
}

func TestNumbersThatAreNotAllThere(t *testing.T) {
	b := []byte{1, 2, 3, 4, 5, 6, 7, 8}
	for at := -2; at <= 10; at++ {
		_, two := le.U16(b, at)
		_, four := le.U32(b, at)
		_, eight := le.U64(b, at)
		if two != (at >= 0 && at <= 6) || four != (at >= 0 && at <= 4) || eight != (at == 0) {
			t.Error(at, two, four, eight)
		}
	}
	for _, at := range places {
		v, a := le.U16(b, at)
		w, c := le.U32(b, at)
		x, d := le.U64(b, at)
		if a || c || d || v != 0 || w != 0 || x != 0 {
			t.Error(at, v, w, x)
		}
	}
	if v, ok := le.U16([]byte{7}, 0); ok || v != 0 {
		t.Error("half a number", v)
	}
}

func TestTextEndsAtTheFirstNought(t *testing.T) {
	b := []byte("abc\x00\x00de")
	for _, x := range []struct {
		at, most int
		want     string
		ok       bool
	}{
		{0, 3, "abc", true}, {0, 2, "", false}, {0, math.MaxInt, "abc", true}, {1, 2, "bc", true},
		{3, 0, "", true}, {3, math.MinInt, "", true}, {4, 5, "", true}, {2, 0, "", false}, {2, -1, "", false},
		{5, 9, "", false}, {5, math.MaxInt, "", false}, {6, 1, "", false}, {7, 0, "", false},
	} {
		if s, ok := le.Text(b, x.at, x.most); s != x.want || ok != x.ok {
			t.Errorf("Text(%d, %d) = %q, %v", x.at, x.most, s, ok)
		}
	}
	for _, at := range places {
		if s, ok := le.Text(b, at, 9); ok || s != "" {
			t.Error(at, s)
		}
	}
	if _, ok := le.Text(nil, 0, 0); ok {
		t.Error("a text of nothing")
	}
}

func TestBytes(t *testing.T) {
	v := uint64(0x8877665544332211)
	all := []byte{0x11, 0x22, 0x33, 0x44, 0x55, 0x66, 0x77, 0x88}
	for n := -2; n <= 10; n++ {
		want := all[:min(max(n, 0), 8)]
		if b := le.Bytes(v, n); !bytes.Equal(b, want) {
			t.Error(n, b)
		}
	}
	if len(le.Bytes(v, math.MinInt)) != 0 || len(le.Bytes(v, math.MaxInt)) != 8 {
		t.Error("edges")
	}
}

func TestWhatIsPutIsRead(t *testing.T) {
	v := uint64(0xF1E2D3C4B5A69788)
	for n := 1; n <= 8; n++ {
		for at := 0; at+n <= 10; at++ {
			b := bytes.Repeat([]byte{0xEE}, 10)
			if !le.Put(b, at, n, v) || !bytes.Equal(b[at:at+n], le.Bytes(v, n)) {
				t.Fatal(n, at, b)
			}
			for i, c := range b {
				if (i < at || i >= at+n) && c != 0xEE {
					t.Fatal("beside it", n, at, i)
				}
			}
		}
	}
	b := make([]byte, 12)
	le.Put(b, 3, 8, v)
	if x, ok := le.U64(b, 3); !ok || x != v {
		t.Error(x)
	}
	le.Put(b, 3, 4, v)
	if x, ok := le.U32(b, 3); !ok || x != 0xB5A69788 {
		t.Error(x)
	}
	le.Put(b, 3, 2, v)
	if x, ok := le.U16(b, 3); !ok || x != 0x9788 {
		t.Error(x)
	}
}

func TestPutThatDoesNotGoIn(t *testing.T) {
	whole := []byte{1, 2, 3, 4, 5, 6, 7, 8, 9, 10}
	b := whole[:4]
	for _, x := range []struct{ at, n int }{{0, 0}, {0, -1}, {0, 9}, {0, 5}, {3, 2}, {4, 1}, {-1, 1}, {-1, 4}, {0, math.MinInt}, {0, math.MaxInt}} {
		if le.Put(b, x.at, x.n, 0) {
			t.Error(x)
		}
	}
	if long := make([]byte, 20); le.Put(long, 0, 9, 1) || le.Put(long, 0, 0, 1) || le.Put(long, 0, 16, 1) || !bytes.Equal(long, make([]byte, 20)) {
		t.Error("lengths", long)
	}
	for _, at := range places {
		if le.Put(b, at, 8, 0) || le.Put(b, at, 1, 0) {
			t.Error(at)
		}
	}
	if !bytes.Equal(whole, []byte{1, 2, 3, 4, 5, 6, 7, 8, 9, 10}) {
		t.Error("written", whole)
	}
}
