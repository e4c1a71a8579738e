package pool

import (
	"strings"

	"qanat/api"
)

// visit is what is done with each name of a list: before its value is looked up, and after.
type visit struct {
	before func(name string) int // returns a code
	after  func(name string)
}

// found is what a list tells of a symbol: its name, and its value; the name again and false if it has none.
type found struct {
	name, value string
	is          bool
}

// visit processes a symbol of a list; it also returns a code.
func (s stack) visit(symbol string, v visit) (found, int) {
	name, code := s.derive(symbol)
	if code == 0 {
		code = v.before(name)
	}
	if code != 0 {
		return found{}, code
	}
	value, is, _ := s.value(symbol)
	v.after(name)
	return found{name, value, is}, 0
}

// list processes the items of a list. It returns the names of those that name others without having a value, and a code.
func (s stack) list(items []api.Item, v visit) ([]string, int, api.Errno) {
	var bare []string
	for _, item := range items {
		if !isSymbol(item.Name) {
			return nil, 0, api.ErrName
		}
		x, code := s.visit(item.Name, v)
		if code == 0 && item.Via {
			code = s.words(x.value, v)
		}
		if code != 0 {
			return nil, code, api.ErrCode
		}
		if item.Via && !x.is {
			bare = append(bare, x.name)
		}
	}
	return bare, 0, api.OK
}

// words processes the words of a value as further symbols of a list, and returns a code.
func (s stack) words(value string, v visit) int {
	for _, word := range strings.Fields(value) {
		symbol := strings.ToUpper(word)
		if !isSymbol(symbol) {
			return codeList
		}
		if _, code := s.visit(symbol, v); code != 0 {
			return code
		}
	}
	return 0
}
