// Package forge makes images by plans.
package forge

import (
	"slipway/api"
	"slipway/fold"
)

// The most that a plan may have.
const (
	mostCode    = 4096
	mostExports = 16
	mostOrd     = 64
	mostForward = 64
	mostImps    = 4
	mostSyms    = 8
	mostRels    = 64
	mostCalls   = 4
	mostBounds  = 4
	mostStamp   = 1<<32 - 1
	mostSymOrd  = 65535
)

// What a base must be.
const (
	baseAlign = 65536
	leastBase = 1 << 16
	mostBase  = 1 << 45
)

// Ok tells whether an image can be made by p.
func Ok(p api.Plan) bool {
	if p.Base%baseAlign != 0 || p.Base < leastBase || p.Base > mostBase || !stampOk(p.Stamp) {
		return false
	}
	if len(p.Code) < 1 || len(p.Code) > mostCode || len(p.Data) > mostCode || p.Entry >= len(p.Code) {
		return false
	}
	return exportsOk(p) && impsOk(p.Imports) && impsOk(p.Delays) && relsOk(p) && callsOk(p) && boundsOk(p.Bounds)
}

func stampOk(stamp int) bool {
	return stamp >= 0 && stamp <= mostStamp
}

// inCode tells whether at is a place in the plan's code.
func inCode(p api.Plan, at int) bool {
	return at >= 0 && at < len(p.Code)
}

func exportsOk(p api.Plan) bool {
	if len(p.Exports) > mostExports {
		return false
	}
	for i, x := range p.Exports {
		if !exportOk(p, x) {
			return false
		}
		for _, y := range p.Exports[:i] {
			if x.Ord == y.Ord || x.Name != "" && x.Name == y.Name {
				return false
			}
		}
	}
	return true
}

func exportOk(p api.Plan, x api.PExp) bool {
	if x.Ord < 1 || x.Ord > mostOrd || x.Name != "" && !fold.SymOk(x.Name) || !inCode(p, x.At) {
		return false
	}
	if x.Forward == "" {
		return true
	}
	_, _, ok := fold.Split(x.Forward)
	return ok && len(x.Forward) <= mostForward && x.At == 0
}

func impsOk(l []api.PImp) bool {
	if len(l) > mostImps {
		return false
	}
	for _, i := range l {
		if !fold.Ok(i.Dll) || len(i.Syms) < 1 || len(i.Syms) > mostSyms {
			return false
		}
		for _, s := range i.Syms {
			if !symOk(s) {
				return false
			}
		}
	}
	return true
}

func symOk(s api.Sym) bool {
	if s.ByOrd {
		return s.Name == "" && s.Ord >= 0 && s.Ord <= mostSymOrd
	}
	return s.Ord == 0 && fold.SymOk(s.Name)
}

// relsOk asks whether the sites lie in code or data, apart from each other.
func relsOk(p api.Plan) bool {
	if len(p.Rels) > mostRels {
		return false
	}
	for i, x := range p.Rels {
		n := len(p.Code)
		if x.InData {
			n = len(p.Data)
		}
		if x.Kind != api.RHigh && x.Kind != api.RDir || x.At < 0 || x.At > n-siteLen(x) {
			return false
		}
		for _, y := range p.Rels[:i] {
			if x.InData == y.InData && x.At < y.At+siteLen(y) && y.At < x.At+siteLen(x) {
				return false
			}
		}
	}
	return true
}

func siteLen(x api.PRel) int {
	if x.Kind == api.RHigh {
		return 4
	}
	return 8
}

func callsOk(p api.Plan) bool {
	if len(p.Calls) > mostCalls || len(p.Calls) > 0 && !p.Tls {
		return false
	}
	for _, at := range p.Calls {
		if !inCode(p, at) {
			return false
		}
	}
	return true
}

func boundsOk(l []api.Bound) bool {
	if len(l) > mostBounds {
		return false
	}
	for _, x := range l {
		if !stampOk(x.Stamp) || x.Stamp == 0 || !fold.Ok(x.Dll) {
			return false
		}
	}
	return true
}
