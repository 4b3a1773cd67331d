package console

import (
	"strconv"
	"strings"

	"slipway/api"
)

// line is a line that has been read.
type line struct {
	name string
	// plans is true of the first row.
	plans bool
	// words are what stands behind the name; numbers has those words' numbers that are such.
	words   []string
	numbers []int
}

// form tells what stands behind a line's name, a letter each: w a word, k a number, h digits of bytes; r is all the rest.
func form(name string) (args string, plans, ok bool) {
	switch name {
	case "dll":
		return "wk", true, true
	case "code":
		return "r", true, true
	case "entry", "rel", "tls":
		return "k", true, true
	case "export":
		return "wk", true, true
	case "forward", "import":
		return "ww", true, true
	case "data":
		return "h", true, true
	case "load", "free":
		return "w", false, true
	case "query":
		return "ww", false, true
	case "start", "trace":
		return "", false, true
	case "end", "peek":
		return "k", false, true
	case "call":
		return "kwwk", false, true
	}
	return "", false, false
}

// read reads a line; false of one that is none.
func read(s string) (line, bool) {
	name, rest, more := strings.Cut(s, " ")
	args, plans, ok := form(name)
	if !ok || more != (args != "") {
		return line{}, false
	}
	x := line{name: name, plans: plans}
	switch args {
	case "":
		return x, true
	case "r":
		x.words = []string{rest}
		return x, true
	}
	x.words = strings.Split(rest, " ")
	x.numbers = make([]int, len(x.words))
	return x, x.wordsOk(args)
}

// wordsOk asks whether words are what args tells, and reads those that are numbers.
func (x line) wordsOk(args string) bool {
	if len(x.words) != len(args) {
		return false
	}
	for i, w := range x.words {
		ok := w != ""
		switch args[i] {
		case 'k':
			x.numbers[i], ok = number(w)
		case 'h':
			_, ok = bytesOf(w)
		}
		if !ok {
			return false
		}
	}
	return true
}

// number reads decimal digits without noughts ahead, below 2^31.
func number(s string) (int, bool) {
	if len(s) > 1 && s[0] == '0' {
		return 0, false
	}
	v, err := strconv.ParseUint(s, 10, 31)
	if err != nil {
		return 0, false
	}
	return int(v), true
}

// bytesOf reads bytes of two digits each, one of them at least.
func bytesOf(s string) ([]byte, bool) {
	if len(s) == 0 || len(s)%2 != 0 {
		return nil, false
	}
	b := make([]byte, 0, len(s)/2)
	for i := 0; i < len(s); i += 2 {
		v, err := strconv.ParseUint(s[i:i+2], 16, 8)
		if err != nil {
			return nil, false
		}
		b = append(b, byte(v))
	}
	return b, true
}

// act makes the act of a line of the second row, and tells whether its answer has a number.
func (x line) act() (act api.Act, tells bool) {
	switch x.name {
	case "load":
		return api.Act{Kind: api.XLoad, Name: x.words[0]}, true
	case "free":
		return api.Act{Kind: api.XFree, Name: x.words[0]}, false
	case "query":
		return api.Act{Kind: api.XQuery, Name: x.words[0], Sym: api.Sym{Name: x.words[1]}}, true
	case "start":
		return api.Act{Kind: api.XStart}, true
	case "end":
		return api.Act{Kind: api.XEnd, Thread: x.numbers[0]}, false
	case "call":
		return api.Act{Kind: api.XCall, Thread: x.numbers[0], Name: x.words[1], Sym: api.Sym{Name: x.words[2]}, Arg: uint64(x.numbers[3])}, true
	}
	return api.Act{Kind: api.XPeek, Arg: uint64(x.numbers[0])}, true
}
