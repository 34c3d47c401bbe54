package regex

import "datakit/api"

// Nullable reports whether a pattern matches the empty string.
func Nullable(p api.Pattern) bool { return Valid(p) && nullable(p) }

func nullable(p api.Pattern) bool {
	switch p.Op {
	case api.RxEmpty:
		return true
	case api.RxCat, api.RxAnd:
		for _, arg := range p.Args {
			if !nullable(arg) {
				return false
			}
		}
		return true
	case api.RxAlt:
		for _, arg := range p.Args {
			if nullable(arg) {
				return true
			}
		}
	case api.RxNot:
		return !nullable(p.Args[0])
	case api.RxRepeat:
		return p.Min == 0 || nullable(p.Args[0])
	}
	return false
}

// Derive returns the pattern of what may follow a byte.
func Derive(p api.Pattern, b int) api.Pattern {
	if b < 0 || b > 255 || !Valid(p) {
		return api.Pattern{}
	}
	return derived(p, b)
}

func derived(p api.Pattern, b int) api.Pattern {
	switch p.Op {
	case api.RxRange:
		if p.Lo <= b && b <= p.Hi {
			return api.Pattern{Op: api.RxEmpty}
		}
	case api.RxCat:
		return derivedCat(p.Args, b)
	case api.RxAlt:
		return union(derivedArgs(p.Args, b))
	case api.RxAnd:
		return intersection(derivedArgs(p.Args, b))
	case api.RxNot:
		return api.Pattern{Op: api.RxNot, Args: []api.Pattern{derived(p.Args[0], b)}}
	case api.RxRepeat:
		return derivedRepeat(p, b)
	}
	return api.Pattern{Op: api.RxNone}
}

func derivedArgs(args []api.Pattern, b int) []api.Pattern {
	out := make([]api.Pattern, len(args))
	for i, arg := range args {
		out[i] = derived(arg, b)
	}
	return out
}

// derivedCat lets the byte be the first one of each argument before which all
// others match the empty string.
func derivedCat(args []api.Pattern, b int) api.Pattern {
	var choices []api.Pattern
	for i, arg := range args {
		choices = append(choices, sequence(derived(arg, b), args[i+1:]))
		if !nullable(arg) {
			break
		}
	}
	return union(choices)
}

// derivedRepeat takes one repetition away. That is right even if the argument
// matches the empty string, since the repetitions left include fewer ones then.
func derivedRepeat(p api.Pattern, b int) api.Pattern {
	if p.Max == 0 {
		return api.Pattern{Op: api.RxNone}
	}
	rest := api.Pattern{Op: api.RxRepeat, Min: max(p.Min-1, 0), Max: max(p.Max-1, -1), Args: p.Args}
	if rest.Max == 0 {
		return derived(p.Args[0], b)
	}
	return sequence(derived(p.Args[0], b), []api.Pattern{rest})
}

// sequence returns the pattern of first and then the rest, which is copied.
func sequence(first api.Pattern, rest []api.Pattern) api.Pattern {
	if first.Op == api.RxNone || len(rest) == 0 {
		return first
	}
	var args []api.Pattern
	switch first.Op {
	case api.RxEmpty:
	case api.RxCat:
		args = first.Args
	default:
		args = []api.Pattern{first}
	}
	for _, p := range rest {
		args = append(args, copied(p))
	}
	if len(args) == 1 {
		return args[0]
	}
	return api.Pattern{Op: api.RxCat, Args: args}
}

func union(choices []api.Pattern) api.Pattern {
	var args []api.Pattern
	for _, p := range choices {
		switch p.Op {
		case api.RxNone:
		case api.RxAlt:
			args = append(args, p.Args...)
		default:
			args = append(args, p)
		}
	}
	switch len(args) {
	case 0:
		return api.Pattern{Op: api.RxNone}
	case 1:
		return args[0]
	}
	return api.Pattern{Op: api.RxAlt, Args: args}
}

func intersection(args []api.Pattern) api.Pattern {
	for _, p := range args {
		if p.Op == api.RxNone {
			return p
		}
	}
	return api.Pattern{Op: api.RxAnd, Args: args}
}
