package vmem

import "slipway/api"

// Peek reads n bytes, whatever the protections.
func (m *Mem) Peek(at uint64, n int) ([]byte, bool) {
	if n < 0 || n > mostBytes || !m.has(at, n) {
		return nil, false
	}
	return m.bytes(at, n), true
}

// Poke writes b, whatever the protections; false, and nothing, if it does not go in.
func (m *Mem) Poke(at uint64, b []byte) bool {
	if len(b) > mostBytes || !m.has(at, len(b)) {
		return false
	}
	m.put(at, b)
	return true
}

// Read reads n bytes that may be read.
func (m *Mem) Read(at uint64, n int) ([]byte, api.Fault) {
	return m.fetch(at, n, api.PR, api.FRead)
}

// Fetch reads n bytes that may be run.
func (m *Mem) Fetch(at uint64, n int) ([]byte, api.Fault) {
	return m.fetch(at, n, api.PX, api.FExec)
}

func (m *Mem) fetch(at uint64, n, need, kind int) ([]byte, api.Fault) {
	n = max(n, 0)
	if f := m.ask(at, n, need, kind); f.Kind != api.FNone {
		return nil, f
	}
	return m.bytes(at, n), api.Fault{}
}

// Write writes b where it may be written.
func (m *Mem) Write(at uint64, b []byte) api.Fault {
	f := m.ask(at, len(b), api.PW, api.FWrite)
	if f.Kind == api.FNone {
		m.put(at, b)
	}
	return f
}

// ask goes through the pages of an access, the lowest first, and tells the first one's fault.
func (m *Mem) ask(at uint64, n, need, kind int) api.Fault {
	if n > mostBytes {
		return api.Fault{Kind: api.FFree, At: at}
	}
	for n > 0 {
		p := m.pages[pageOf(at)]
		switch {
		case p == nil:
			return api.Fault{Kind: api.FFree, At: at}
		case p.prot&api.PG != 0:
			p.prot -= api.PG
			return api.Fault{Kind: api.FGuard, At: at}
		case p.prot&need == 0:
			return api.Fault{Kind: kind, At: at}
		}
		k := piece(at, n)
		at += uint64(k)
		n -= k
	}
	return api.Fault{}
}

// piece tells how many of n bytes from at on lie in at's page.
func piece(at uint64, n int) int {
	return min(n, api.PageSize-int(at%api.PageSize))
}

// has tells whether n bytes from at on are all mapped.
func (m *Mem) has(at uint64, n int) bool {
	for n > 0 {
		if m.pages[pageOf(at)] == nil {
			return false
		}
		k := piece(at, n)
		at += uint64(k)
		n -= k
	}
	return true
}

// bytes copies n bytes from at on, all of which are mapped.
func (m *Mem) bytes(at uint64, n int) []byte {
	b := make([]byte, n)
	for i := 0; i < n; {
		i += copy(b[i:], m.rest(at+uint64(i)))
	}
	return b
}

// put copies b to at, where all of it is mapped.
func (m *Mem) put(at uint64, b []byte) {
	for i := 0; i < len(b); {
		i += copy(m.rest(at+uint64(i)), b[i:])
	}
}

// rest is at's page from at on.
func (m *Mem) rest(at uint64) []byte {
	return m.pages[pageOf(at)].data[at%api.PageSize:]
}
