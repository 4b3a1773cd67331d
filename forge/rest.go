package forge

import (
	"cmp"
	"slices"
	"strings"

	"slipway/api"
	"slipway/le"
)

// Which directory is which.
const (
	dirExports = 0
	dirImports = 1
	dirRels    = 5
	dirTls     = 9
	dirBounds  = 11
	dirDelays  = 13
)

// byOrd is the bit of a thunk that names a symbol by its number.
const byOrd = 1 << 63

// rest is the section that holds all directories, as far as it is made.
type rest struct {
	plan  api.Plan
	rva   int
	b     []byte
	dirs  [16]api.Dir
	sites []api.Rel
}

// makeRest makes all directories of a plan.
func makeRest(p api.Plan) *rest {
	r := &rest{plan: p, rva: restRVA(p)}
	r.room(iatAt(p, len(asked(p)))-r.rva, lenPlace)
	r.imports()
	r.delays()
	r.exports()
	r.tls()
	r.bounds()
	r.rels()
	return r
}

// room makes room for n bytes at a multiple of align, and tells its RVA.
func (r *rest) room(n, align int) int {
	for len(r.b)%align != 0 {
		r.b = append(r.b, 0)
	}
	at := r.rva + len(r.b)
	r.b = append(r.b, make([]byte, n)...)
	return at
}

// put writes n bytes of v at an RVA for which there is room.
func (r *rest) put(rva, n int, v uint64) {
	le.Put(r.b, rva-r.rva, n, v)
}

// put4 writes numbers of four bytes one behind the other.
func (r *rest) put4(rva int, l ...int) {
	for i, v := range l {
		r.put(rva+4*i, 4, uint64(v))
	}
}

// text writes s, and tells where it stands.
func (r *rest) text(s string) int {
	at := r.room(len(s)+1, 1)
	copy(r.b[at-r.rva:], s)
	return at
}

// end is the RVA behind all that is made.
func (r *rest) end() int {
	return r.rva + len(r.b)
}

func (r *rest) imports() {
	n := len(r.plan.Imports)
	if n == 0 {
		return
	}
	at := r.room(20*(n+1), 4)
	r.dirs[dirImports] = api.Dir{RVA: at, Size: 20 * (n + 1)}
	for k, i := range r.plan.Imports {
		iat := iatAt(r.plan, k)
		r.put4(at+20*k, r.thunks(i.Syms, iat), 0, 0, r.text(i.Dll), iat)
	}
}

func (r *rest) delays() {
	n := len(r.plan.Delays)
	if n == 0 {
		return
	}
	at := r.room(32*(n+1), 4)
	r.dirs[dirDelays] = api.Dir{RVA: at, Size: 32 * (n + 1)}
	for k, i := range r.plan.Delays {
		iat := iatAt(r.plan, len(r.plan.Imports)+k)
		r.put4(at+32*k, 1, r.text(i.Dll), handleAt(k), iat, r.thunks(i.Syms, iat))
	}
}

// thunks writes what symbols are asked for, at the Iat, too, and tells where.
func (r *rest) thunks(syms []api.Sym, iat int) int {
	at := r.room((len(syms)+1)*lenPlace, lenPlace)
	for k, s := range syms {
		v := r.thunk(s)
		r.put(at+k*lenPlace, lenPlace, v)
		r.put(iat+k*lenPlace, lenPlace, v)
	}
	return at
}

func (r *rest) thunk(s api.Sym) uint64 {
	if s.ByOrd {
		return byOrd | uint64(s.Ord)
	}
	at := r.room(2, 2)
	r.text(s.Name)
	return uint64(at)
}

// exports writes the directory with its forwards' texts in it: where a text stands is what makes it a forward.
func (r *rest) exports() {
	l := slices.Clone(r.plan.Exports)
	if len(l) == 0 {
		return
	}
	slices.SortFunc(l, func(a, b api.PExp) int { return a.Ord - b.Ord })
	base := l[0].Ord
	n := l[len(l)-1].Ord - base + 1
	at := r.room(40, 4)
	funcs := r.room(4*n, 4)
	for _, x := range l {
		rva := textRVA + x.At
		if x.Forward != "" {
			rva = r.text(x.Forward)
		}
		r.put4(funcs+4*(x.Ord-base), rva)
	}
	names, indexes, count := r.names(l, base)
	r.put4(at+16, base, n, count, funcs, names, indexes)
	r.dirs[dirExports] = api.Dir{RVA: at, Size: r.end() - at}
}

// names writes the rows of names, which rise, and of the functions they stand for.
func (r *rest) names(l []api.PExp, base int) (names, indexes, count int) {
	l = slices.DeleteFunc(slices.Clone(l), func(x api.PExp) bool { return x.Name == "" })
	slices.SortFunc(l, func(a, b api.PExp) int { return strings.Compare(a.Name, b.Name) })
	names = r.room(4*len(l), 4)
	indexes = r.room(2*len(l), 2)
	for i, x := range l {
		r.put(indexes+2*i, 2, uint64(x.Ord-base))
		r.put4(names+4*i, r.text(x.Name))
	}
	return names, indexes, len(l)
}

// tls writes the TLS directory; the addresses in it are sites.
func (r *rest) tls() {
	if !r.plan.Tls {
		return
	}
	at := r.room(40, lenPlace)
	r.dirs[dirTls] = api.Dir{RVA: at, Size: 40}
	r.address(at+16, stateRVA)
	if len(r.plan.Calls) == 0 {
		return
	}
	row := r.room((len(r.plan.Calls)+1)*lenPlace, lenPlace)
	r.address(at+24, row)
	for i, call := range r.plan.Calls {
		r.address(row+i*lenPlace, textRVA+call)
	}
}

// address writes the address of to at rva.
func (r *rest) address(rva, to int) {
	r.put(rva, lenPlace, r.plan.Base+uint64(to))
	r.sites = append(r.sites, api.Rel{Kind: api.RDir, RVA: rva})
}

func (r *rest) bounds() {
	n := len(r.plan.Bounds)
	if n == 0 {
		return
	}
	at := r.room(8*(n+1), 4)
	r.dirs[dirBounds] = api.Dir{RVA: at, Size: 8 * (n + 1)}
	for i, x := range r.plan.Bounds {
		r.put4(at+8*i, x.Stamp)
		r.put(at+8*i+4, 2, uint64(r.text(x.Dll)-at))
	}
}

// rels writes all sites, in blocks of a page each.
func (r *rest) rels() {
	for _, x := range r.plan.Rels {
		rva := textRVA + x.At
		if x.InData {
			rva = dataRVA + x.At
		}
		r.sites = append(r.sites, api.Rel{Kind: x.Kind, RVA: rva})
	}
	if len(r.sites) == 0 {
		return
	}
	slices.SortFunc(r.sites, func(a, b api.Rel) int { return cmp.Compare(a.RVA, b.RVA) })
	at := r.room(0, 4)
	for l := r.sites; len(l) > 0; {
		n := samePage(l)
		r.block(l[:n])
		l = l[n:]
	}
	r.dirs[dirRels] = api.Dir{RVA: at, Size: r.end() - at}
}

// samePage tells how many sites lie in the first one's page.
func samePage(l []api.Rel) int {
	n := 1
	for n < len(l) && l[n].RVA/api.PageSize == l[0].RVA/api.PageSize {
		n++
	}
	return n
}

// block writes the sites of one page; an entry that is none makes its length a multiple of four.
func (r *rest) block(l []api.Rel) {
	size := 8 + 4*((len(l)+1)/2)
	at := r.room(size, 4)
	r.put4(at, l[0].RVA-l[0].RVA%api.PageSize, size)
	for i, x := range l {
		r.put(at+8+2*i, 2, uint64(x.Kind<<12|x.RVA%api.PageSize))
	}
}
