package pool

import (
	"iter"
	"slices"
	"strings"

	"qanat/api"
)

// The codes of the language that variables meet.
const (
	codeFull = 5  // a name is too long, or there are too many of them
	codeList = 46 // a word of a list is not a variable symbol
)

// stack is the levels of a stack of pools; the last one is the current one.
type stack []api.Level

// copied returns a copy of a stack, which may be changed.
func copied(levels []api.Level) stack {
	s := make(stack, len(levels))
	for k, level := range levels {
		s[k] = api.Level{Links: slices.Clone(level.Links), Vals: slices.Clone(level.Vals)}
	}
	return s
}

// down yields the levels with their indices, from the current one down.
func (s stack) down() iter.Seq2[int, api.Level] { return slices.Backward(s) }

// place returns where a name is, or would be, in a list that is in the order of its names.
func place[T any](list []T, name string, nameOf func(T) string) (int, bool) {
	return slices.BinarySearchFunc(list, name, func(x T, name string) int { return strings.Compare(nameOf(x), name) })
}

func linkName(link string) string { return link }

func pairName(pair api.Pair) string { return pair.Name }

// home returns the index of the home of a name. The search always ends: the first level has no links.
func (s stack) home(name string) int {
	home := 0
search:
	for k, level := range s.down() {
		home = k
		for _, link := range [...]string{name, stemOf(name)} {
			if _, isLinked := place(level.Links, link, linkName); isLinked {
				continue search
			}
		}
		break search
	}
	return home
}

// get returns the value of a name, if it has one.
func (s stack) get(name string) (string, bool) {
	vals := s[s.home(name)].Vals
	at, found := place(vals, name, pairName)
	if !found {
		return "", false
	}
	return vals[at].Value, true
}

// set assigns a value to a name, and returns a code.
func (s stack) set(name, value string) int {
	s.drop(name)
	level := &s[s.home(name)]
	if len(level.Vals) >= api.MaxVars {
		return codeFull
	}
	at, _ := place(level.Vals, name, pairName)
	level.Vals = slices.Insert(level.Vals, at, api.Pair{Name: name, Value: value})
	return 0
}

// drop removes the value of a name; for a stem also those of its derived names, which begin with it.
func (s stack) drop(name string) {
	s.remove(func(other string) bool {
		return other == name || isStem(name) && strings.HasPrefix(other, name)
	})
}

// remove removes the values, at their homes, of the names that isGone tells.
func (s stack) remove(isGone func(name string) bool) {
	for k := range s {
		s[k].Vals = slices.DeleteFunc(s[k].Vals, func(pair api.Pair) bool {
			return isGone(pair.Name) && s.home(pair.Name) == k
		})
	}
}

// link links a name at the current level, and returns a code.
func (s stack) link(name string) int {
	level := &s[len(s)-1]
	at, found := place(level.Links, name, linkName)
	switch {
	case found:
		return 0
	case len(level.Links) >= api.MaxVars:
		return codeFull
	}
	level.Links = slices.Insert(level.Links, at, name)
	return 0
}

// derive returns the name for a symbol, and a code. A part that is no simple symbol is the name of no variable, so that it has no value.
func (s stack) derive(symbol string) (string, int) {
	parts := strings.Split(symbol, ".")
	for k := 1; k < len(parts); k++ {
		if value, is := s.get(parts[k]); is {
			parts[k] = value
		}
	}
	name := joined(parts...)
	if len(name) > api.MaxString {
		return "", codeFull
	}
	return name, 0
}

// value returns the value of a symbol, or its name and false, and a code.
func (s stack) value(symbol string) (string, bool, int) {
	name, code := s.derive(symbol)
	if code != 0 {
		return "", false, code
	}
	for _, x := range [...]string{name, stemOf(symbol)} {
		if value, is := s.get(x); is {
			return value, true, 0
		}
	}
	return name, false, 0
}
