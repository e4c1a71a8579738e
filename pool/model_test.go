package pool_test

import (
	"maps"
	"regexp"
	"slices"
	"strings"

	"qanat/api"
)

// model is a stack of pools as the chapter tells it: links and values are sets and maps, and nothing is in order.
type model struct {
	links []map[string]bool
	vals  []map[string]string
}

func newModel() *model {
	return &model{links: []map[string]bool{{}}, vals: []map[string]string{{}}}
}

// pools returns the stack that a model stands for.
func (m *model) pools() api.Pools {
	var p api.Pools
	for k := range m.vals {
		level := api.Level{Links: slices.Sorted(maps.Keys(m.links[k]))}
		for _, name := range slices.Sorted(maps.Keys(m.vals[k])) {
			level.Vals = append(level.Vals, api.Pair{Name: name, Value: m.vals[k][name]})
		}
		p.Levels = append(p.Levels, level)
	}
	return p
}

// derivedName is a stem, and what makes it a derived name.
var derivedName = regexp.MustCompile(`^([^.]*\.)(.+)$`)

// home returns the home of a name for a level.
func (m *model) home(level int, name string) int {
	isLinked := m.links[level][name]
	if parts := derivedName.FindStringSubmatch(name); parts != nil && m.links[level][parts[1]] {
		isLinked = true
	}
	if !isLinked {
		return level
	}
	return m.home(level-1, name)
}

// top returns the values of the home of a name for the current level.
func (m *model) top(name string) map[string]string {
	return m.vals[m.home(len(m.vals)-1, name)]
}

// vars returns all values that are seen.
func (m *model) vars() map[string]string {
	seen := map[string]string{}
	for _, vals := range m.vals {
		for name := range vals {
			if value, is := m.top(name)[name]; is {
				seen[name] = value
			}
		}
	}
	return seen
}

// drop removes the values of a name, and of the derived names of a stem.
func (m *model) drop(name string) {
	delete(m.top(name), name)
	for other := range m.vars() {
		if parts := derivedName.FindStringSubmatch(other); parts != nil && parts[1] == name {
			delete(m.top(other), other)
		}
	}
}

// set assigns a value; it tells the code.
func (m *model) set(name, value string) int {
	if strings.HasSuffix(name, ".") && strings.Count(name, ".") == 1 {
		m.drop(name)
	}
	m.top(name)[name] = value
	if len(m.top(name)) > api.MaxVars {
		return 5
	}
	return 0
}

// tailPart is a part of a tail, with the period before it.
var tailPart = regexp.MustCompile(`\.[^.]+`)

// derive returns the name for a symbol, and its code.
func (m *model) derive(symbol string) (string, int) {
	name := tailPart.ReplaceAllStringFunc(symbol, func(part string) string {
		if value, is := m.top(part[1:])[part[1:]]; is && !strings.ContainsAny(part[1:2], "0123456789") {
			return "." + value
		}
		return part
	})
	if len(name) > 1000 {
		return "", 5
	}
	return name, 0
}

// value returns the value of a symbol, whether it has one, and its code.
func (m *model) value(symbol string) (string, bool, int) {
	name, code := m.derive(symbol)
	if value, is := m.top(name)[name]; is && code == 0 {
		return value, true, 0
	}
	if parts := derivedName.FindStringSubmatch(symbol); parts != nil && code == 0 {
		if value, is := m.top(parts[1])[parts[1]]; is {
			return value, true, 0
		}
	}
	return name, false, code
}

// word is a variable symbol in letters of any case.
var word = regexp.MustCompile(`^[A-Za-z!?_][A-Za-z0-9!?_]*(\.[A-Za-z0-9!?_.]*)?$`)

// lists processes a list for EXPOSE, or for DROP; it tells the names without a value, and the code.
func (m *model) lists(l []api.Item, exposes bool) ([]string, int) {
	top := len(m.links) - 1
	var bare []string
	for _, item := range l {
		name, code := m.derive(item.Name)
		if code != 0 {
			return nil, code
		}
		if exposes {
			m.links[top][name] = true
		}
		value, is, _ := m.value(item.Name)
		if !exposes {
			m.drop(name)
		}
		if item.Via && !is {
			bare = append(bare, name)
		}
		for _, x := range strings.Split(value, " ") {
			if !item.Via || x == "" {
				continue
			}
			if !word.MatchString(x) || len(x) > 40 {
				return nil, 46
			}
			if _, code := m.lists([]api.Item{{Name: strings.ToUpper(x)}}, exposes); code != 0 {
				return nil, code
			}
		}
		if len(m.links[top]) > api.MaxVars {
			return nil, 5
		}
	}
	return bare, 0
}

// enter enters a level, leave removes it.
func (m *model) enter() {
	m.links = append(m.links, map[string]bool{})
	m.vals = append(m.vals, map[string]string{})
}

func (m *model) leave() {
	top := len(m.links) - 1
	m.links, m.vals = m.links[:top], m.vals[:top]
}

// copied returns a copy of a model.
func (m *model) copied() *model {
	c := &model{}
	for k := range m.vals {
		c.links = append(c.links, maps.Clone(m.links[k]))
		c.vals = append(c.vals, maps.Clone(m.vals[k]))
	}
	return c
}
