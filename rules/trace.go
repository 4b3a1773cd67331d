package rules

import "slipway/api"

// mostReason is the last of the reasons: it goes, it comes, a thread comes, a thread goes.
const (
	modGoes    = 0
	modComes   = 1
	mostReason = 3
)

// group is a module that is told once, as far as it has been read.
type group struct {
	mod            string
	reason, thread int
	// calls counts its TLS calls; ended is true behind its entry.
	calls uint64
	ended bool
}

// reader is a trace as far as it has been read.
type reader struct {
	// there has the modules that have come.
	there map[string]int
	// now is the group that is being read, if open.
	now  group
	open bool
}

// Trace asks whether modules come and go in the right order.
func Trace(l []api.Ev) api.Errno {
	r := &reader{there: map[string]int{}}
	for _, x := range l {
		if !r.read(x) {
			return api.ErrRule
		}
	}
	return api.OK
}

func (r *reader) read(x api.Ev) bool {
	switch x.Kind {
	case api.ESay:
		return true
	case api.EFail:
		r.open = false
		return x.Reason == modComes && r.leave(x.Mod)
	case api.ETls, api.EMain:
		return r.told(x)
	}
	return false
}

// told reads an event of a group, which it may begin.
func (r *reader) told(x api.Ev) bool {
	if !r.open || r.now.mod != x.Mod || r.now.reason != x.Reason || r.now.thread != x.Thread {
		r.now = group{mod: x.Mod, reason: x.Reason, thread: x.Thread}
		r.open = true
		if !r.begin() {
			return false
		}
	}
	if r.now.ended {
		return false
	}
	if x.Kind == api.EMain {
		r.now.ended = true
		return x.N == 0
	}
	r.now.calls++
	return x.N == r.now.calls-1
}

// begin asks whether the module of a group may be told for that reason.
func (r *reader) begin() bool {
	mod := r.now.mod
	switch {
	case r.now.reason == modComes:
		r.there[mod]++
		return r.there[mod] == 1
	case r.now.reason == modGoes:
		return r.leave(mod)
	}
	return r.now.reason > modComes && r.now.reason <= mostReason && r.there[mod] == 1
}

// leave takes away a module that is there.
func (r *reader) leave(mod string) bool {
	n := r.there[mod]
	delete(r.there, mod)
	return n == 1
}
