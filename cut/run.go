package cut

import (
	"iter"
	"slices"
	"strings"

	"qanat/api"
)

// run is n targets from the index first on, the pattern behind them, and the parts behind that. The last run of a section has a comma as its pattern, also at the end of the template.
type run struct {
	first, n int
	pattern  api.Part
	rest     []api.Part
}

// runs yields the runs of a template.
func runs(t []api.Part) iter.Seq[run] {
	return func(yield func(run) bool) {
		for rest := t; ; {
			r := run{first: len(t) - len(rest), n: slices.IndexFunc(rest, isNoTarget)}
			if r.n < 0 {
				r.n, r.pattern = len(rest), api.Part{Kind: api.TpComma}
				yield(r)
				return
			}
			r.pattern, r.rest = rest[r.n], rest[r.n+1:len(rest):len(rest)]
			if !yield(r) {
				return
			}
			rest = r.rest
		}
	}
}

// isAnchor reports whether the next pattern of the section is a relative column.
func (r run) isAnchor() bool {
	k := slices.IndexFunc(r.rest, isNoTarget)
	return k >= 0 && isRelative(r.rest[k])
}

// pattern is what a pattern looks for: a literal, or a column. The next piece begins where an anchor begins, not behind it.
type pattern struct {
	literal  string
	column   int
	isAnchor bool
}

// place is where a section is in its string: the offsets of the next piece, and of the last match.
type place struct {
	text        string
	start, base int
}

// end returns the end of the string, and the place there.
func (p place) end(pattern) (int, place) {
	k := len(p.text)
	return k, place{p.text, k, k}
}

// literal returns the end of the piece before a literal, and the place after it.
func (p place) literal(x pattern) (int, place) {
	k := strings.Index(p.text[p.start:], x.literal)
	if k < 0 || x.literal == "" {
		return p.end(x)
	}
	k += p.start
	if x.isAnchor {
		return k, place{p.text, k, k}
	}
	return k, place{p.text, k + len(x.literal), k}
}

// to returns the end of the piece before an offset, and the place there; to the left of the piece everything up to the end belongs to it.
func (p place) to(k int) (int, place) {
	k = min(max(k, 0), len(p.text))
	end := k
	if k <= p.start {
		end = len(p.text)
	}
	return end, place{p.text, k, k}
}

func (p place) absolute(x pattern) (int, place) { return p.to(x.column - 1) }

func (p place) plus(x pattern) (int, place) { return p.to(p.base + x.column) }

func (p place) minus(x pattern) (int, place) { return p.to(p.base - x.column) }

// cutter returns a function that cuts one piece after the other off a string, each up to what a pattern of a kind finds. It returns the offsets of the piece.
func cutter(text string) func(kind int, x pattern) (int, int) {
	here := place{text: text}
	finders := map[int]func(place, pattern) (int, place){
		api.TpLit: place.literal, api.TpLitVar: place.literal,
		api.TpAbs: place.absolute, api.TpAbsVar: place.absolute,
		api.TpPlus: place.plus, api.TpPlusVar: place.plus,
		api.TpMinus: place.minus, api.TpMinusVar: place.minus,
		api.TpComma: place.end,
	}
	return func(kind int, x pattern) (int, int) {
		from := here.start
		to, next := finders[kind](here, x)
		here = next
		return from, to
	}
}
