package syn

import (
	"slices"
	"strings"

	"qanat/api"
)

// keywords are the words that make a clause an instruction, or a part of one.
const keywords = "ADDRESS ARG CALL DO DROP ELSE END EXIT IF INTERPRET ITERATE LEAVE NOP NUMERIC OTHERWISE PARSE PROCEDURE PULL PUSH QUEUE RETURN SAY SELECT SIGNAL THEN TRACE WHEN"

// clause writes a clause on a line of its own; parts that are empty are left out.
func (w *writer) clause(parts ...string) {
	var texts []string
	for _, part := range parts {
		if part != "" {
			texts = append(texts, part)
		}
	}
	w.add(closed(strings.Join(texts, blank)), "\n")
}

// statements writes statements.
func (w *writer) statements(list []api.Stmt) {
	for _, s := range list {
		if w.isFull() {
			return
		}
		w.statement(s)
	}
}

// statement writes a statement, with its bodies.
func (w *writer) statement(s api.Stmt) {
	switch s.Kind {
	case api.StIf:
		w.clause("IF", w.joined(s.Exprs, "THEN"), "THEN")
		w.statements(s.Body)
		if len(s.Else) > 0 {
			w.clause("ELSE")
			w.statements(s.Else)
		}
	case api.StSelect:
		w.clause("SELECT")
		for _, when := range s.Whens {
			if w.isFull() {
				return
			}
			w.clause("WHEN", w.exprText(when.Cond, "THEN"), "THEN")
			w.statements(when.Body)
		}
		if s.N == 1 {
			w.clause("OTHERWISE")
			w.statements(s.Else)
		}
		w.clause("END")
	case api.StDo:
		w.clause("DO", w.repetitorText(s), w.testText(s))
		w.statements(s.Body)
		w.clause("END")
	default:
		w.clause(w.simpleText(s)...)
	}
}

// joined returns the text of the only expression of a list; nothing if there is none.
func (w *writer) joined(list []api.Expr, ends ...string) string {
	if len(list) == 0 {
		return ""
	}
	return w.exprText(list[0], ends...)
}

// guarded returns the text of the only expression of a list, in parentheses if it begins with one of these words, or like an assignment.
func (w *writer) guarded(list []api.Expr, words []string, ends ...string) string {
	if len(list) == 0 {
		return ""
	}
	first, operator := w.first(list[0])
	isSymbol := isNamed(first) && !slices.Contains(ends, first.Text)
	if isSymbol && (slices.Contains(words, first.Text) || operator == "=" && first.Kind != api.ExCall) {
		return "(" + w.exprText(list[0]) + ")"
	}
	return w.exprText(list[0], ends...)
}

// repetitorText returns the text of what a DO repeats.
func (w *writer) repetitorText(s api.Stmt) string {
	ends := strings.Fields(doWords)
	switch s.Loop {
	case api.LpForever:
		return "FOREVER"
	case api.LpCount:
		return w.guarded(s.Exprs, []string{"FOREVER"}, ends...)
	case api.LpOver:
		return w.written(func(part *writer) { part.over(s, ends) })
	}
	return ""
}

// over writes the control variable of a loop, and its values.
func (w *writer) over(s api.Stmt, ends []string) {
	w.add(s.Name, " = ", w.joined(s.Exprs, ends...))
	for _, rep := range s.Reps {
		w.add(blank, wordAt(repWords, rep.Kind), blank)
		w.expr(rep.Expr, ends)
	}
}

// testText returns the text of the condition of a DO.
func (w *writer) testText(s api.Stmt) string {
	if s.Test == 0 {
		return ""
	}
	return wordAt(testWords, s.Test) + blank + w.joined(s.Cond, strings.Fields(doWords)...)
}

// wordAt returns the n-th of words, from 1; nothing if there is none.
func wordAt(words string, n int) string {
	list := strings.Fields(words)
	if n < 1 || n > len(list) {
		return ""
	}
	return list[n-1]
}

// simpleText returns the parts of the text of a statement without a body.
func (w *writer) simpleText(s api.Stmt) []string {
	value := w.joined(s.Exprs)
	switch s.Kind {
	case api.StLabel:
		return []string{s.Name + ":"}
	case api.StAssign:
		return []string{s.Name, "=", value}
	case api.StCommand:
		return []string{w.guarded(s.Exprs, strings.Fields(keywords))}
	case api.StAddress:
		return addressText(s, value)
	case api.StCall:
		return w.callText(s)
	case api.StCallOn:
		return conditionText("CALL", s)
	case api.StSignalOn:
		return conditionText("SIGNAL", s)
	case api.StSignal:
		if s.N == 0 {
			return []string{"SIGNAL", literalText(s.Name)}
		}
		return []string{"SIGNAL VALUE", value}
	case api.StDrop:
		return append([]string{"DROP"}, itemTexts(s.Items)...)
	case api.StProcedure:
		if s.N == 0 {
			return []string{"PROCEDURE"}
		}
		return append([]string{"PROCEDURE EXPOSE"}, itemTexts(s.Items)...)
	case api.StNumeric:
		return []string{"NUMERIC", wordAt(numericWords, s.N+1), s.Word, value}
	case api.StParse:
		return w.parseText(s)
	case api.StTrace:
		if s.Word == "" {
			return []string{"TRACE"}
		}
		return []string{"TRACE", literalText(s.Word)}
	}
	return []string{plainWord(s.Kind), s.Name, value}
}

// plainWord returns the keyword of a statement that has at most a name, or an expression, behind it.
func plainWord(kind int) string {
	switch kind {
	case api.StExit:
		return "EXIT"
	case api.StInterpret:
		return "INTERPRET"
	case api.StIterate:
		return "ITERATE"
	case api.StLeave:
		return "LEAVE"
	case api.StNop:
		return "NOP"
	case api.StPush:
		return "PUSH"
	case api.StQueue:
		return "QUEUE"
	case api.StReturn:
		return "RETURN"
	case api.StSay:
		return "SAY"
	}
	return ""
}

func addressText(s api.Stmt, value string) []string {
	switch s.N {
	case 0:
		return []string{"ADDRESS"}
	case 3:
		return []string{"ADDRESS VALUE", value}
	}
	return []string{"ADDRESS", literalText(s.Name), value}
}

func (w *writer) callText(s api.Stmt) []string {
	name := s.Name
	if s.N == 1 {
		name = literalText(s.Name)
	}
	return []string{"CALL", name, w.written(func(part *writer) { part.arguments(s.Exprs) })}
}

// conditionText returns the parts of CALL ON, CALL OFF, SIGNAL ON and SIGNAL OFF.
func conditionText(word string, s api.Stmt) []string {
	switch {
	case s.N == 0:
		return []string{word, "OFF", s.Word}
	case s.Name == "":
		return []string{word, "ON", s.Word}
	}
	return []string{word, "ON", s.Word, "NAME", s.Name}
}

func (w *writer) parseText(s api.Stmt) []string {
	template := w.written(func(part *writer) { part.template(s.Tmpl) })
	isShort := s.N == 1 && (s.Word == "ARG" || s.Word == "PULL")
	if isShort && !strings.HasPrefix(template, "=") { // it would be an assignment
		return []string{s.Word, template}
	}
	parts := []string{"PARSE"}
	if s.N == 1 {
		parts = append(parts, "UPPER")
	}
	if s.Word == "VALUE" {
		return append(parts, "VALUE", w.joined(s.Exprs, "WITH"), "WITH", template)
	}
	return append(parts, s.Word, s.Name, template)
}

// itemTexts returns the texts of the items of a list.
func itemTexts(items []api.Item) []string {
	var texts []string
	for _, item := range items {
		if item.Via {
			texts = append(texts, "("+item.Name+")")
		} else {
			texts = append(texts, item.Name)
		}
	}
	return texts
}
