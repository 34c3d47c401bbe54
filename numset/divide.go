package numset

import (
	"slices"

	"datakit/api"
	"datakit/decimal"
)

// sorts is a set of the integers and of the other numbers.
type sorts int

const (
	whole sorts = 1
	fract sorts = 2
	both  sorts = 3
)

func sortsOf(sort int) sorts {
	switch sort {
	case api.NumWhole:
		return whole
	case api.NumFract:
		return fract
	}
	return both
}

// cut is a place between numbers: before a number, or after it.
type cut struct {
	num   api.Decimal
	after bool
}

func cmpCuts(a, b cut) int {
	if c := decimal.Cmp(a.num, b.num); c != 0 || a.after == b.after {
		return c
	}
	if b.after {
		return -1
	}
	return 1
}

// combine returns the set whose numbers of a stretch between two cuts are those
// that op makes of the ones that belong to a and to b.
func combine(a, b api.NumSet, op func(x, y sorts) sorts) (api.NumSet, api.Errno) {
	if !Valid(a) || !Valid(b) {
		return api.NumSet{}, api.ErrArg
	}
	parts := divided(a, b, op)
	if len(parts) > api.MaxParts {
		return api.NumSet{}, api.ErrLimit
	}
	return api.NumSet{Parts: parts}, api.OK
}

// divided returns the parts of a combination of two sets: at most one for each
// stretch, of which there is one more than there are ends of parts.
func divided(a, b api.NumSet, op func(x, y sorts) sorts) []api.Part {
	cuts := cutsOf(a, b)
	inA, inB := stretches(a, cuts), stretches(b, cuts)
	var parts []api.Part
	last := sorts(0)
	extend := func(i int, s sorts) {
		if s != last && s != 0 {
			parts = append(parts, api.Part{Lo: lowerEnd(cuts, i), Sort: sortOf(s)})
		}
		if s != 0 {
			parts[len(parts)-1].Hi = upperEnd(cuts, i)
		}
		last = s
	}
	for i := range len(cuts) + 1 {
		extend(i, op(inA[i], inB[i]))
	}
	return parts
}

func sortOf(s sorts) int {
	switch s {
	case whole:
		return api.NumWhole
	case fract:
		return api.NumFract
	}
	return api.NumAll
}

// cutsOf returns the ends of all parts, in order, each once.
func cutsOf(sets ...api.NumSet) []cut {
	var cuts []cut
	for _, s := range sets {
		for _, part := range s.Parts {
			if part.Lo.Set {
				cuts = append(cuts, loCut(part.Lo))
			}
			if part.Hi.Set {
				cuts = append(cuts, hiCut(part.Hi))
			}
		}
	}
	slices.SortFunc(cuts, cmpCuts)
	return slices.CompactFunc(cuts, func(a, b cut) bool { return a == b })
}

func loCut(b api.Bound) cut { return cut{b.Num, b.Open} }

func hiCut(b api.Bound) cut { return cut{b.Num, !b.Open} }

// stretches returns which numbers of each stretch belong to a set: of those
// before the first cut, between the first and the second one, and so on.
func stretches(s api.NumSet, cuts []cut) []sorts {
	in := make([]sorts, len(cuts)+1)
	for _, part := range s.Parts {
		from, to := 0, len(cuts)
		if part.Lo.Set {
			from, _ = slices.BinarySearchFunc(cuts, loCut(part.Lo), cmpCuts)
			from++
		}
		if part.Hi.Set {
			to, _ = slices.BinarySearchFunc(cuts, hiCut(part.Hi), cmpCuts)
		}
		for i := from; i <= to; i++ {
			in[i] |= sortsOf(part.Sort)
		}
	}
	return in
}

func lowerEnd(cuts []cut, stretch int) api.Bound {
	if stretch == 0 {
		return api.Bound{}
	}
	c := cuts[stretch-1]
	return api.Bound{Set: true, Num: c.num, Open: c.after}
}

func upperEnd(cuts []cut, stretch int) api.Bound {
	if stretch == len(cuts) {
		return api.Bound{}
	}
	c := cuts[stretch]
	return api.Bound{Set: true, Num: c.num, Open: !c.after}
}
