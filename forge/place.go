package forge

import "slipway/api"

// Where an image's sections are: code, data, what the process writes into (if there is any), and the rest.
const (
	textRVA  = 4096
	dataRVA  = 8192
	stateRVA = 12288
	lenPlace = 8
)

// TextRVA tells where the code is.
func TextRVA() int {
	return textRVA
}

// DataRVA tells where the data is.
func DataRVA(p api.Plan) int {
	if !Ok(p) {
		return 0
	}
	return dataRVA
}

// IatRVA tells where the address of an import's symbol is written; delayed imports are numbered behind the others.
func IatRVA(p api.Plan, imp, sym int) (int, bool) {
	if !Ok(p) {
		return 0, false
	}
	l := asked(p)
	if imp < 0 || imp >= len(l) || sym < 0 || sym >= len(l[imp].Syms) {
		return 0, false
	}
	return iatAt(p, imp) + sym*lenPlace, true
}

// IndexRVA tells where the TLS index is; 0, if there is none.
func IndexRVA(p api.Plan) int {
	if !Ok(p) || !p.Tls {
		return 0
	}
	return stateRVA
}

// asked are a plan's imports, and the delayed ones behind them.
func asked(p api.Plan) []api.PImp {
	l := make([]api.PImp, 0, len(p.Imports)+len(p.Delays))
	l = append(l, p.Imports...)
	return append(l, p.Delays...)
}

// hasState tells whether there is anything that the process writes into beside the data.
func hasState(p api.Plan) bool {
	return p.Tls || len(p.Delays) > 0
}

// handleAt tells where the handle of a delayed import is: behind the TLS index.
func handleAt(i int) int {
	return stateRVA + (1+i)*lenPlace
}

// restRVA tells where the rest is.
func restRVA(p api.Plan) int {
	if hasState(p) {
		return stateRVA + api.PageSize
	}
	return stateRVA
}

// iatAt tells where an import's addresses are: all of them stand ahead of the rest, each row with a nought behind it.
func iatAt(p api.Plan, imp int) int {
	at := restRVA(p)
	for _, i := range asked(p)[:imp] {
		at += (len(i.Syms) + 1) * lenPlace
	}
	return at
}
