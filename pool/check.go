package pool

import "qanat/api"

// Check tells whether a stack is valid.
func Check(p api.Pools) api.Errno {
	n := len(p.Levels)
	if n < 1 || n > api.MaxFrames || len(p.Levels[0].Links) > 0 {
		return api.ErrForm
	}
	for k := range p.Levels {
		if !stack(p.Levels[: k+1 : k+1]).isRight() {
			return api.ErrForm
		}
	}
	return api.OK
}

// checked returns the error of the stacks of a call, or else that of its name or symbol.
func checked(isRight bool, stacks ...api.Pools) api.Errno {
	for _, p := range stacks {
		if e := Check(p); e != api.OK {
			return e
		}
	}
	if !isRight {
		return api.ErrName
	}
	return api.OK
}

// isRight reports whether the current level is valid. A value must be one that Set accepts: otherwise what is derived from it would not be a name.
func (s stack) isRight() bool {
	top := len(s) - 1
	level := s[top]
	if !areNames(level.Links, linkName) || !areNames(level.Vals, pairName) {
		return false
	}
	for _, pair := range level.Vals {
		if !isValue(pair.Value) || s.home(pair.Name) != top {
			return false
		}
	}
	return true
}

// areNames reports whether a list is not too long and has names of variables, in their order.
func areNames[T any](list []T, nameOf func(T) string) bool {
	if len(list) > api.MaxVars {
		return false
	}
	last := "" // a name is not empty
	for _, x := range list {
		name := nameOf(x)
		if !isName(name) || name <= last {
			return false
		}
		last = name
	}
	return true
}
