package pool

import (
	"maps"
	"slices"

	"qanat/api"
)

// values returns the values of all names that have one, seen from the current level.
func (s stack) values() map[string]string {
	values := map[string]string{}
	for k, level := range s.down() {
		for _, pair := range level.Vals {
			if s.home(pair.Name) == k {
				values[pair.Name] = pair.Value
			}
		}
	}
	return values
}

// pairs returns the values in the order of their names.
func (s stack) pairs() []api.Pair {
	values := s.values()
	pairs := make([]api.Pair, 0, len(values))
	for _, name := range slices.Sorted(maps.Keys(values)) {
		pairs = append(pairs, api.Pair{Name: name, Value: values[name]})
	}
	return pairs
}

// missing returns the names of the pairs that are not in others, which are in the order of their names.
func missing(pairs, others []api.Pair) []string {
	var names []string
	for _, pair := range pairs {
		at, found := place(others, pair.Name, pairName)
		if !found || others[at] != pair {
			names = append(names, pair.Name)
		}
	}
	return names
}
