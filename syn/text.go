package syn

import (
	"slices"
	"strconv"
	"strings"

	"qanat/api"
	"qanat/scan"
)

// writer writes the text of a tree. It gives up where the text is too long; what is not the tree of any source has a text, too, which is that of another one, or of none.
type writer struct {
	text   strings.Builder
	levels map[string]int
}

func newWriter() *writer { return &writer{levels: operatorLevels()} }

func (w *writer) isFull() bool { return w.text.Len() > api.MaxSource }

// add writes texts one behind the other.
func (w *writer) add(texts ...string) {
	for _, s := range texts {
		if !w.isFull() {
			w.text.WriteString(s)
		}
	}
}

// expr writes an expression that these words end.
func (w *writer) expr(e api.Expr, ends []string) {
	switch {
	case w.isFull():
	case e.Kind == api.ExBin:
		w.binary(e, ends)
	case e.Kind == api.ExUn:
		w.add(e.Text)
		w.operand(kidOf(e, 0), kidOf(e, 0).Kind == api.ExBin, ends)
	case isNamed(e) && slices.Contains(ends, e.Text):
		w.operand(e, true, nil)
	case isNamed(e):
		w.add(e.Text)
		w.callArguments(e)
	default:
		w.add(literalText(e.Text))
		w.callArguments(e)
	}
}

// operand writes an expression, in parentheses if it needs them.
func (w *writer) operand(e api.Expr, parens bool, ends []string) {
	if !parens {
		w.expr(e, ends)
		return
	}
	w.add("(")
	w.expr(e, nil)
	w.add(")")
}

// binary writes a binary operation.
func (w *writer) binary(e api.Expr, ends []string) {
	left, right, level := kidOf(e, 0), kidOf(e, 1), w.levels[e.Text]
	w.operand(left, w.isBelow(left, level), ends)
	if e.Text == blank {
		w.add(blank)
	} else {
		w.add(blank, e.Text, blank)
	}
	first, _ := w.first(right)
	w.operand(right, w.isBelow(right, level+1) || e.Text == blank && first.Kind == api.ExUn, ends)
}

// isBelow reports whether an expression is a binary operation below a level.
func (w *writer) isBelow(e api.Expr, level int) bool {
	return e.Kind == api.ExBin && w.levels[e.Text] < level
}

// first returns the operand with which the text of an expression begins, and the operator behind it; no operand if it begins with a parenthesis.
func (w *writer) first(e api.Expr) (api.Expr, string) {
	operator := ""
	for e.Kind == api.ExBin {
		operator = e.Text
		left := kidOf(e, 0)
		if w.isBelow(left, w.levels[operator]) {
			return api.Expr{}, ""
		}
		e = left
	}
	return e, operator
}

// kidOf returns an operand; no expression if it is missing.
func kidOf(e api.Expr, k int) api.Expr {
	if k < len(e.Kids) {
		return e.Kids[k]
	}
	return api.Expr{}
}

// isNamed reports whether the text of an expression without operators begins with a symbol.
func isNamed(e api.Expr) bool {
	switch e.Kind {
	case api.ExConst, api.ExVar, api.ExStem, api.ExComp:
		return true
	}
	return e.Kind == api.ExCall && e.N == 0
}

// callArguments writes the parentheses of a call, with its arguments.
func (w *writer) callArguments(e api.Expr) {
	if e.Kind == api.ExCall {
		w.add("(")
		w.arguments(e.Kids)
		w.add(")")
	}
}

// arguments writes arguments.
func (w *writer) arguments(list []api.Expr) {
	for k, e := range list {
		if k > 0 {
			w.add(", ")
		}
		if e.Kind != api.ExNone {
			w.expr(e, nil)
		}
	}
}

// literalText returns a literal; nothing if no source has one for this string.
func literalText(s string) string {
	text, _ := scan.Literal(s)
	return text
}

// template writes a template.
func (w *writer) template(parts []api.Part) {
	for k, part := range parts {
		if w.isFull() {
			return
		}
		if k > 0 && (part.Kind != api.TpComma || parts[k-1].Kind == api.TpComma) {
			w.add(blank)
		}
		w.part(part)
	}
}

// part writes a part of a template.
func (w *writer) part(part api.Part) {
	column, variable := strconv.Itoa(part.N), "("+part.Text+")"
	switch part.Kind {
	case api.TpVar:
		w.add(part.Text)
	case api.TpDot:
		w.add(".")
	case api.TpLit:
		w.add(literalText(part.Text))
	case api.TpLitVar:
		w.add(variable)
	case api.TpAbs:
		w.add(column)
	case api.TpPlus:
		w.add("+", column)
	case api.TpMinus:
		w.add("-", column)
	case api.TpAbsVar:
		w.add("=", variable)
	case api.TpPlusVar:
		w.add("+", variable)
	case api.TpMinusVar:
		w.add("-", variable)
	case api.TpComma:
		w.add(",")
	}
}

// written returns what a part of writing writes.
func (w *writer) written(write func(*writer)) string {
	part := &writer{levels: w.levels}
	write(part)
	return part.text.String()
}

// exprText returns the text of an expression that these words end.
func (w *writer) exprText(e api.Expr, ends ...string) string {
	return w.written(func(part *writer) { part.expr(e, ends) })
}

// closed returns the text of a clause: a comma at its end would be a continuation without the semicolon.
func closed(text string) string {
	text = strings.TrimRight(text, blank)
	if strings.HasSuffix(text, ",") {
		return text + " ;"
	}
	return text
}
