package span

import (
	"gnomon/api"
	"gnomon/dyadic"
)

// end is what a call of layer 5 tells of one end.
type end struct {
	d api.Dyadic
	e api.Errno
}

func told(d api.Dyadic, e api.Errno) end { return end{d, e} }

// between: the span of two ends. What can be wrong with ends that come from spans in form is ErrLimit alone: the greater error is the one there is.
func between(lo, hi end) (api.Span, api.Errno) {
	if e := max(lo.e, hi.e); e != api.OK {
		return api.Span{}, e
	}
	return api.Span{Lo: lo.d, Hi: hi.d}, api.OK
}

// foremost: of first and the others the one that none of them is ahead of.
func foremost[T any](ahead func(x, y T) bool, first T, others ...T) T {
	for _, other := range others {
		if ahead(other, first) {
			first = other
		}
	}
	return first
}

func least(first api.Dyadic, others ...api.Dyadic) api.Dyadic {
	return foremost(func(x, y api.Dyadic) bool { return !atMost(y, x) }, first, others...)
}

func greatest(first api.Dyadic, others ...api.Dyadic) api.Dyadic {
	return foremost(func(x, y api.Dyadic) bool { return !atMost(x, y) }, first, others...)
}

// atMost: is x at most y, both in form?
func atMost(x, y api.Dyadic) bool {
	order, _ := dyadic.Cmp(x, y)
	return order <= 0
}
