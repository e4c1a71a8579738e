package syn_test

import (
	"math/rand"
	"strconv"
	"strings"

	"qanat/api"
)

// exprForm tells an expression in a short form: constants have #, stems and compound symbols *, a missing argument is _, operations are in parentheses, and arguments in brackets.
func exprForm(e api.Expr) string {
	var kids []string
	for _, kid := range e.Kids {
		kids = append(kids, exprForm(kid))
	}
	text, literal := e.Text, map[int]string{0: "", 1: "'"}[e.N]
	switch {
	case e.Kind == api.ExCall:
		return literal + text + literal + "[" + strings.Join(kids, ",") + "]"
	case e.N != 0:
	case e.Kind == api.ExBin && len(kids) == 2:
		return "(" + kids[0] + " " + text + " " + kids[1] + ")"
	case e.Kind == api.ExUn && len(kids) == 1:
		return "(" + text + kids[0] + ")"
	case len(kids) > 0:
	case e.Kind == api.ExLit:
		return "'" + text + "'"
	case e.Kind == api.ExConst:
		return "#" + text
	case e.Kind == api.ExVar && !strings.Contains(text, "."), e.Kind == api.ExStem && strings.Index(text, ".") == len(text)-1:
		return text
	case e.Kind == api.ExComp:
		return "*" + text
	case e.Kind == api.ExNone && text == "":
		return "_"
	}
	return "?"
}

// tmplForm tells a template in a short form: a kind, and what the part has.
func tmplForm(parts []api.Part) string {
	var list []string
	for _, x := range parts {
		kind := map[int]string{api.TpVar: "var", api.TpDot: "dot", api.TpLit: "lit", api.TpLitVar: "litvar", api.TpAbs: "abs", api.TpPlus: "plus", api.TpMinus: "minus", api.TpAbsVar: "absvar", api.TpPlusVar: "plusvar", api.TpMinusVar: "minusvar", api.TpComma: "comma"}[x.Kind]
		if x.Text != "" {
			kind += ":" + x.Text
		}
		if x.N != 0 {
			kind += ":" + strconv.Itoa(x.N)
		}
		list = append(list, kind)
	}
	return strings.Join(list, " ")
}

var kindNames = []string{"?", "label", "assign", "address", "call", "callon", "do", "drop", "exit", "if", "interpret", "iterate", "leave", "nop", "numeric", "parse", "procedure", "push", "queue", "return", "say", "select", "signal", "signalon", "trace", "command"}

// form tells a statement in a short form: its line, its kind, and the fields that it has.
func form(s api.Stmt) string {
	text := strconv.Itoa(s.Line) + ":" + kindNames[s.Kind]
	add := func(name, value string, is bool) {
		if is {
			text += " " + name + "=" + value
		}
	}
	exprs := func(list []api.Expr) string {
		var texts []string
		for _, e := range list {
			texts = append(texts, exprForm(e))
		}
		return strings.Join(texts, ",")
	}
	add("name", s.Name, s.Name != "")
	add("word", s.Word, s.Word != "")
	add("n", strconv.Itoa(s.N), s.N != 0)
	add("loop", strconv.Itoa(s.Loop), s.Loop != 0)
	add("exprs", exprs(s.Exprs), len(s.Exprs) > 0)
	for _, x := range s.Items {
		add("item", map[bool]string{true: "(" + x.Name + ")", false: x.Name}[x.Via], true)
	}
	add("tmpl", tmplForm(s.Tmpl), len(s.Tmpl) > 0)
	for _, r := range s.Reps {
		add(map[int]string{api.RpTo: "to", api.RpBy: "by", api.RpFor: "for"}[r.Kind], exprForm(r.Expr), true)
	}
	add("test", strconv.Itoa(s.Test), s.Test != 0)
	add("cond", exprs(s.Cond), len(s.Cond) > 0)
	for _, w := range s.Whens {
		add("when", strconv.Itoa(w.Line)+":"+exprForm(w.Cond)+" "+forms(w.Body), true)
	}
	add("body", forms(s.Body), len(s.Body) > 0)
	add("else", forms(s.Else), len(s.Else) > 0)
	return text
}

// forms tells statements in a short form.
func forms(list []api.Stmt) string {
	var texts []string
	for _, s := range list {
		texts = append(texts, form(s))
	}
	return "{" + strings.Join(texts, "; ") + "}"
}

// dice makes random things, always the same ones.
type dice struct{ *rand.Rand }

func newDice(seed int64) dice { return dice{rand.New(rand.NewSource(seed))} }

// one returns one of a list.
func (d dice) one(list ...string) string { return list[d.Intn(len(list))] }

// in reports true one time in n.
func (d dice) in(n int) bool { return d.Intn(n) == 0 }
