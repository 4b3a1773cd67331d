package console_test

import (
	"strconv"
	"strings"
	"testing"

	"slipway/console"
)

// script is lines with what is answered.
type script [][2]string

// ask does a script line by line, and as one text.
func ask(t *testing.T, s script) *console.Console {
	t.Helper()
	c := console.New()
	text, want := "", ""
	for i, x := range s {
		if got := c.Do(x[0]); got != x[1] {
			t.Errorf("%d: %q: %q, not %q", i, x[0], got, x[1])
		}
		text += x[0] + "\n"
		want += x[1] + "\n"
	}
	if got := console.Run(text); got != want {
		t.Errorf("Run: %q", got)
	}
	return c
}

func TestAProcessByLines(t *testing.T) {
	base := 0x100000
	n := strconv.Itoa
	ask(t, script{
		{"dll b 32", "ok"}, {"code movl 0 77", "ok"}, {"code ret", "ok"}, {"export f 1", "ok"}, {"export g 6", "ok"},
		{"dll a 16", "ok"}, {"import B f", "ok"}, {"import b.dll g", "ok"}, {"forward to b.f", "ok"}, {"export own 0", "ok"}, {"data 0102030405060708ff", "ok"}, {"code mov 0 1", "ok"}, {"code addi 0 -1", "ok"}, {"code ret", "ok"}, {"export dec 1", "ok"},
		{"load gone", "error 15"}, {"load a", "ok " + n(base)}, {"load A.DLL", "ok " + n(base)}, {"query a own", "ok " + n(base+4096)}, {"query a to", "ok " + n(2*base+4097)}, {"query b g", "ok " + n(2*base+4102)},
		{"query a none", "error 21"}, {"query c f", "error 15"}, {"peek " + n(base+8192), "ok 578437695752307201"}, {"peek " + n(base+8193), "ok 18376946001920656130"}, {"peek 0", "error 17"}, {"peek 2147483647", "error 17"},
		{"call 1 a to 5", "ok 77"}, {"call 1 a dec 5", "ok 4"}, {"call 1 a dec 0", "ok 18446744073709551615"}, {"call 2 a dec 1", "error 24"}, {"call 1 a none 1", "error 21"}, {"call 1 z f 1", "error 15"},
		{"start", "ok 2"}, {"call 2 a dec 1", "ok 0"}, {"end 2", "ok"}, {"end 2", "error 24"}, {"end 1", "error 24"}, {"start", "ok 3"},
		{"trace", "ok"}, {"free b", "error 15"}, {"free a", "ok"}, {"free a", "ok"}, {"free a", "error 15"}, {"query a own", "error 15"}, {"peek " + n(base+8192), "error 17"},
	})
}

func TestTraces(t *testing.T) {
	ask(t, script{
		{"dll a 16", "ok"}, {"code mov 1 2", "ok"}, {"code int 32", "ok"}, {"code movl 0 1", "ok"}, {"code ret", "ok"}, {"tls 0", "ok"}, {"tls 1", "ok"}, {"entry 1", "ok"}, {"import b f", "ok"},
		{"dll b 17", "ok"}, {"export f 0", "ok"}, {"entry 0", "ok"}, {"code movl 0 0", "ok"},
		{"dll c 18", "ok"}, {"export f 0", "ok"}, {"code movl 0 0", "ok"}, {"code ret", "ok"}, {"entry 1", "ok"},
		{"trace", "ok"}, {"load c", "error 23"}, {"trace", "ok\n2 c.dll 1 1 0\n4 c.dll 1 1 23"},
	})
	c := ask(t, script{
		{"dll a 16", "ok"}, {"code mov 1 2", "ok"}, {"code int 32", "ok"}, {"code movl 0 1", "ok"}, {"code ret", "ok"}, {"tls 0", "ok"}, {"tls 1", "ok"}, {"entry 1", "ok"},
		{"load a", "ok 1048576"}, {"start", "ok 2"}, {"free a", "ok"},
		{"trace", "ok\n1 a.dll 1 1 0\n1 a.dll 1 1 1\n3 a.dll 0 1 1\n2 a.dll 1 1 0\n3 a.dll 0 1 1\n1 a.dll 2 2 0\n1 a.dll 2 2 1\n3 a.dll 0 2 2\n2 a.dll 2 2 0\n3 a.dll 0 2 2\n1 a.dll 0 1 0\n1 a.dll 0 1 1\n3 a.dll 0 1 0\n2 a.dll 0 1 0\n3 a.dll 0 1 0"},
	})
	if c.Life() == nil || len(c.Life().Proc().Trace()) != 15 {
		t.Error("Life")
	}
}

func TestTheProcessIsMadeByTheSecondRow(t *testing.T) {
	first := []string{"dll z 9", "code ret", "entry 0", "export s 0", "forward s a.f", "import d s", "rel 0", "data 00", "tls 0"}
	for _, line := range []string{"load a", "free a", "query a f", "start", "end 1", "call 1 a f 1", "peek 1", "trace"} {
		c := console.New()
		c.Do("dll a 16")
		c.Do("data 0000000000000000")
		if c.Life() != nil {
			t.Error("there is one already")
		}
		c.Do(line)
		l := c.Life()
		if l == nil {
			t.Fatal(line)
		}
		for _, x := range first {
			if got := c.Do(x); got != "error 26" {
				t.Error(line, x, got)
			}
		}
		if c.Life() != l || c.Do("load z") != "error 15" {
			t.Error(line, "another process")
		}
	}
	c := console.New()
	for _, x := range []string{"load", "start now", "x", "load a b", "peek -1", "trace ", "call 1 a f", ""} {
		if got := c.Do(x); got != "error 26" || c.Life() != nil {
			t.Errorf("%q: %q", x, got)
		}
	}
	if got := c.Do("dll a 16"); got != "ok" {
		t.Error("what is no line made a process", got)
	}
}

func TestWhatTheProcessIsMadeWith(t *testing.T) {
	c := console.New()
	c.Do("trace")
	if p := c.Life().Proc(); p.Fuel() != 10000 || p.Mem().Free() != 255 {
		t.Error(p.Fuel(), p.Mem().Free())
	}
}

func TestWithoutAPlan(t *testing.T) {
	c := console.New()
	for _, x := range []string{"code ret", "entry 0", "export s 0", "forward s a.f", "import d s", "rel 0", "data 00", "tls 0"} {
		if got := c.Do(x); got != "error 26" {
			t.Error(x, got)
		}
	}
}

func TestNoSuchLines(t *testing.T) {
	for _, x := range []string{
		"", " ", "x", "DLL a 1", "dll", "dll a", "dll a 1 2", "dll  a 1", "dll a  1", " dll a 1", "dll a 1 ", "dll a x", "dll a 01", "dll a -1", "dll a +1", "dll a 0x1", "dll a 2147483648", "dll a 99999999999999999999", "dll a 00",
		"code", "code ", "code x", "code RET", "code  ret", "code ret ", "code movl 0", "code movl 16 1", "entry", "entry x", "entry 00", "entry 1 2", "entry -1", "entry 2147483648", "export s", "export s x", "export s 0 0", "export s 01",
		"forward s", "forward s b.f x", "import d", "import d s t", "rel", "rel x", "rel 01", "data", "data 0", "data 000", "data xx", "data 0g", "data 00 00", "data +1", "data -1", "data 0x", "data _0", "tls", "tls x", "tls 1 1",
		"load", "load a b", "free", "free a b", "query a", "query a b c", "start 1", "end", "end x", "end 1 1", "end -1", "end 01", "call 1 a f", "call 1 a f 1 1", "call x a f 1", "call 1 a f x", "call 1 a f -1", "call 1 a f 2147483648", "call 01 a f 1",
		"peek", "peek x", "peek 01", "peek 2147483648", "peek 1 1", "trace 1", "trace ", "traces", "loa d",
	} {
		c := console.New()
		c.Do("dll q 16")
		c.Do("data 0000000000000000")
		if got := c.Do(x); got != "error 26" || c.Life() != nil {
			t.Errorf("%q: %q", x, got)
		}
	}
}

func TestWhatAPlanMayNotBe(t *testing.T) {
	for _, x := range []string{
		"dll q 1", "dll Q.DLL 1", "dll q.dll 1", "dll a/b 1", "dll " + strings.Repeat("n", 41) + " 1", "dll n 0", "dll n 536870913", "dll n 2147483647",
		"entry 1", "entry 2147483647", "export s 1", "export #s 0", "export " + strings.Repeat("s", 61) + " 0", "forward s b", "forward s .f", "forward s b.#65536", "forward # b.f", "forward s " + strings.Repeat("d", 41) + ".f", "import a/b s", "import d #1", "import d " + strings.Repeat("s", 61),
		"rel 1", "rel 8", "rel 2147483647", "tls 1", "tls 2147483647",
	} {
		c := console.New()
		c.Do("dll q 16")
		c.Do("data 0000000000000000")
		if got := c.Do(x); got != "error 1" || c.Life() != nil {
			t.Errorf("%q: %q", x, got)
		}
		// Nothing is changed: what is Ok is so still.
		for _, y := range []string{"rel 0", "export s 0", "entry 0", "tls 0", "import d s", "forward t b.f"} {
			if got := c.Do(y); got != "ok" {
				t.Errorf("%q, %q: %q", x, y, got)
			}
		}
	}
}

func TestTheMostOfAPlan(t *testing.T) {
	c := console.New()
	c.Do("dll a 16")
	times := func(n int, line func(i int) string, more string) {
		t.Helper()
		for i := range n {
			if got := c.Do(line(i)); got != "ok" {
				t.Error(i, line(i), got)
			}
		}
		if got := c.Do(more); got != "error 1" {
			t.Error(more, got)
		}
	}
	times(16, func(i int) string { return "export s" + strconv.Itoa(i) + " 0" }, "forward t b.f")
	times(4, func(i int) string { return "import d s" }, "import d s")
	times(4, func(i int) string { return "tls 0" }, "tls 0")
	times(32, func(i int) string { return "data " + strings.Repeat("00", 128) }, "data 00")
	times(64, func(i int) string { return "rel " + strconv.Itoa(8*i) }, "rel 4000")
	times(4095, func(i int) string { return "code nop" }, "code nop")
	if got := c.Do("export s0 0"); got != "error 1" {
		t.Error(got)
	}
	if got := c.Do("load a"); got != "error 15" {
		t.Error("d is nowhere", got)
	}
}

func TestNamesInAnyLettersAreOne(t *testing.T) {
	ask(t, script{
		{"dll Main 16", "ok"}, {"dll MAIN.dll 17", "error 1"}, {"dll main.exe 18", "ok"}, {"export f 0", "ok"}, {"forward F main.exe.f", "ok"}, {"export F 0", "error 1"}, {"forward x MAIN.EXE.F", "ok"}, {"forward r main.exe.r", "ok"},
		{"load mAIN", "ok 1048576"}, {"load MAIN.EXE", "ok 1179648"}, {"query main.exe F", "ok 1183744"}, {"query Main.Exe x", "ok 1183744"}, {"query main.exe r", "error 22"},
	})
}

func TestOrdinalsAreCounted(t *testing.T) {
	ask(t, script{
		{"dll a 16", "ok"}, {"export f 0", "ok"}, {"forward g a.f", "ok"}, {"code ret", "ok"}, {"export h 1", "ok"}, {"export #h 1", "error 1"}, {"forward k a.#3", "ok"}, {"forward m a.#5", "ok"}, {"forward n a.#2", "ok"},
		{"load a", "ok 1048576"}, {"query a k", "ok 1052673"}, {"query a n", "ok 1052672"}, {"query a m", "error 22"}, {"query a #3", "error 21"},
	})
}

func TestSitesAreMoved(t *testing.T) {
	ask(t, script{
		{"dll a 16", "ok"}, {"data 1111111111111111", "ok"}, {"data 0020100000000000", "ok"}, {"rel 8", "ok"}, {"rel 4", "error 1"}, {"import b f", "ok"},
		{"dll b 16", "ok"}, {"export f 0", "ok"},
		// b has the base; a is moved to the first place behind the stack.
		{"load a", "ok 131072"}, {"peek 139264", "ok 1229782938247303441"}, {"peek 139272", "ok 139264"}, {"query b f", "ok 1052672"},
	})
}

func TestLongLines(t *testing.T) {
	c := console.New()
	c.Do("dll a 16")
	long := "data " + strings.Repeat("0", 295)
	if got := c.Do(long); got != "error 26" {
		t.Error("300 bytes", got)
	}
	for _, x := range []string{long + "0", strings.Repeat("x", 301), strings.Repeat(" ", 5000)} {
		if got := c.Do(x); got != "error 27" || c.Life() != nil {
			t.Error(len(x), got)
		}
	}
	if got := c.Do("data " + strings.Repeat("0", 294)); got != "ok" {
		t.Error(got)
	}
	if got := console.Run("start\n" + strings.Repeat("y", 301) + "\nstart"); got != "ok 2\nerror 27\nok 3\n" {
		t.Error(got)
	}
}

func TestLongTexts(t *testing.T) {
	if got := console.Run("start" + strings.Repeat("\n", 9995)); got != "ok 2\n" {
		t.Error(got)
	}
	if got := console.Run("start" + strings.Repeat("\n", 9996)); got != "error 27\n" {
		t.Error(got)
	}
	for _, text := range []string{"", "\n", "\n\n\n"} {
		if got := console.Run(text); got != "" {
			t.Errorf("%q %q", text, got)
		}
	}
	if got := console.Run("\n\nload a\n\n x\n"); got != "error 15\nerror 26\n" {
		t.Error(got)
	}
}

func TestTheSameTextIsAnsweredTheSame(t *testing.T) {
	text := "dll a 16\ncode jmps -2\nexport f 1\nload a\ncall 1 a f 0\ncall 1 a f 0\nload a\nstart\ntrace\nfree a\nfree a\nfree a\n"
	want := "ok\nok\nok\nok 1048576\nerror 18\nerror 18\nok 1048576\nok 2\nok\nok\nok\nerror 15\n"
	for range 3 {
		if got := console.Run(text); got != want {
			t.Errorf("%q", got)
		}
	}
}

func FuzzRun(f *testing.F) {
	f.Add("dll a 16\ndata 00\ntls 0\nentry 0\nimport b f\nload a\ntrace")
	f.Fuzz(func(t *testing.T, text string) {
		if a, b := console.Run(text), console.Run(text); a != b {
			t.Errorf("%q: %q and %q", text, a, b)
		}
	})
}
