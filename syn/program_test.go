package syn_test

import (
	"strings"

	"qanat/api"
)

// place is where a statement stands.
type place struct {
	depth  int
	top    bool // at the top level: it may be a label
	branch bool // behind THEN or ELSE: it is no PROCEDURE
	closed bool // before an ELSE: it does not end with an IF without ELSE
}

// statements writes up to n statements.
func (b *builder) statements(n int, where place) []api.Stmt {
	var list []api.Stmt
	for range b.Intn(n + 1) {
		list = append(list, b.statement(where))
	}
	return list
}

// statement writes a statement.
func (b *builder) statement(where place) api.Stmt {
	s := api.Stmt{Line: b.line()}
	kind := b.Intn(25) + 1
	if where.depth == 0 && (kind == api.StDo || kind == api.StIf || kind == api.StSelect) || kind == api.StLabel && !where.top || kind == api.StProcedure && where.branch {
		kind = api.StAssign
	}
	s.Kind = kind
	where.depth--
	where.top = false
	switch kind {
	case api.StDo:
		b.loop(&s, place{depth: where.depth})
		return s
	case api.StIf:
		b.ifThen(&s, where)
		return s
	case api.StSelect:
		b.selectWhen(&s, where)
		return s
	case api.StLabel:
		s.Name = b.one("X", "Y1", "SAY", "WHEN", "1.5", "A.B")
		b.word(s.Name)
		b.maybe()
		b.put(":")
		b.maybe()
		return s
	}
	b.clause(&s)
	b.end()
	return s
}

// keyword writes the keyword of an instruction.
func (b *builder) keyword(word string) {
	b.word(word)
	b.gap()
}

// clause writes a clause of one of the kinds that have no body.
func (b *builder) clause(s *api.Stmt) {
	plain := map[int]string{api.StExit: "EXIT", api.StReturn: "RETURN", api.StSay: "SAY", api.StPush: "PUSH", api.StQueue: "QUEUE"}
	switch s.Kind {
	case api.StAssign:
		s.Name = b.variable()
		b.word(s.Name)
		b.maybe()
		b.put("=")
		b.maybe()
		s.Exprs = b.option()
	case api.StCommand:
		b.command(s)
	case api.StAddress, api.StCall, api.StSignal:
		b.named(s)
	case api.StCallOn, api.StSignalOn:
		b.condition(s)
	case api.StDrop:
		b.keyword("DROP")
		s.Items = b.items()
	case api.StProcedure:
		b.keyword("PROCEDURE")
		if b.in(2) {
			s.N = 1
			b.keyword("EXPOSE")
			s.Items = b.items()
		}
	case api.StInterpret:
		b.keyword("INTERPRET")
		s.Exprs = []api.Expr{b.expr(3)}
	case api.StIterate, api.StLeave:
		b.keyword(map[int]string{api.StIterate: "ITERATE", api.StLeave: "LEAVE"}[s.Kind])
		if b.in(2) {
			s.Name = b.variable()
			b.word(s.Name)
		}
	case api.StNop:
		b.word("NOP")
	case api.StNumeric:
		b.numeric(s)
	case api.StParse:
		b.parse(s)
	case api.StTrace:
		b.keyword("TRACE")
		s.Word = b.one("", "R", "?A", "1", "o")
		if s.Word == "o" || s.Word == "" && b.in(2) {
			b.literal(s.Word)
		} else {
			b.put(s.Word)
		}
	default:
		b.keyword(plain[s.Kind])
		s.Exprs = b.option()
	}
}

// option writes an expression, or nothing.
func (b *builder) option() []api.Expr {
	if b.in(4) {
		return nil
	}
	return []api.Expr{b.expr(4)}
}

// command writes a command, which does not begin like another clause.
func (b *builder) command(s *api.Stmt) {
	b.ends, b.open = nil, 0
	switch b.Intn(3) {
	case 0:
		s.Exprs = []api.Expr{b.inParens(func() api.Expr { return b.binary(0, 3) })}
	case 1:
		value := b.value()
		b.literal(value)
		s.Exprs = []api.Expr{lit(value)}
	default:
		b.word("DIR")
		b.gap()
		s.Exprs = []api.Expr{bin(v("DIR"), " ", b.operand(3, false))}
	}
}

// name writes a simple symbol, or a literal.
func (b *builder) name() (string, bool) {
	if b.in(2) {
		name := b.one("A", "SUB", "TO", "X1")
		b.word(name)
		return name, false
	}
	name := b.value()
	b.literal(name)
	return name, true
}

func (b *builder) named(s *api.Stmt) {
	b.keyword(map[int]string{api.StAddress: "ADDRESS", api.StCall: "CALL", api.StSignal: "SIGNAL"}[s.Kind])
	switch {
	case s.Kind == api.StAddress && b.in(4):
	case s.Kind != api.StCall && b.in(3):
		s.N = map[int]int{api.StAddress: 3, api.StSignal: 1}[s.Kind]
		b.keyword("VALUE")
		s.Exprs = []api.Expr{b.expr(3)}
	case s.Kind == api.StSignal:
		s.Name, _ = b.name()
	case s.Kind == api.StAddress:
		s.N = 1
		s.Name, _ = b.name()
		if b.in(2) {
			s.N = 2
			b.gap()
			s.Exprs = []api.Expr{b.expr(3)}
		}
	default:
		name, is := b.name()
		s.Name, s.N = name, map[bool]int{true: 1, false: 0}[is]
		b.gap()
		b.open = 0
		s.Exprs = b.list(3)
	}
}

func (b *builder) condition(s *api.Stmt) {
	conditions := []string{"ERROR", "FAILURE", "HALT", "NOTREADY"}
	if s.Kind == api.StCallOn {
		b.keyword("CALL")
	} else {
		b.keyword("SIGNAL")
		conditions = append(conditions, "NOVALUE", "SYNTAX")
	}
	s.N = b.Intn(2)
	b.keyword([]string{"OFF", "ON"}[s.N])
	s.Word = b.one(conditions...)
	b.word(s.Word)
	if s.N == 1 && b.in(2) {
		b.gap()
		b.keyword("NAME")
		s.Name = b.simple()
		b.word(s.Name)
	}
}

func (b *builder) items() []api.Item {
	var items []api.Item
	for range 1 + b.Intn(4) {
		item := api.Item{Name: b.variable(), Via: b.in(3)}
		if item.Via {
			b.put("(")
			b.maybe()
		}
		b.word(item.Name)
		if item.Via {
			b.maybe()
			b.put(")")
		}
		b.gap()
		items = append(items, item)
	}
	return items
}

func (b *builder) numeric(s *api.Stmt) {
	b.keyword("NUMERIC")
	s.N = b.Intn(3)
	b.keyword([]string{"DIGITS", "FUZZ", "FORM"}[s.N])
	if s.N < 2 {
		s.Exprs = b.option()
		return
	}
	s.Word = b.one("", "SCIENTIFIC", "ENGINEERING")
	b.put(s.Word)
}

func (b *builder) parse(s *api.Stmt) {
	s.N = b.Intn(2)
	s.Word = b.one("ARG", "PULL", "LINEIN", "NUMERIC", "SOURCE", "VAR", "VALUE")
	isShort := s.N == 1 && (s.Word == "ARG" || s.Word == "PULL") && b.in(2)
	if !isShort {
		b.keyword("PARSE")
		if s.N == 1 {
			b.keyword("UPPER")
		}
	}
	b.word(s.Word)
	switch s.Word {
	case "VAR":
		b.gap()
		s.Name = b.variable()
		b.word(s.Name)
	case "VALUE":
		b.gap()
		if b.in(3) {
			s.Exprs = []api.Expr{b.expr(3, "WITH")}
			b.gap()
		}
		b.word("WITH")
	}
	if isShort { // it must not look like an assignment
		b.gap()
		b.put(".")
		s.Tmpl = append([]api.Part{{Kind: api.TpDot}}, b.template()...)
		return
	}
	s.Tmpl = b.template()
}

// branch writes a statement behind THEN or ELSE.
func (b *builder) branch(word string, where place) []api.Stmt {
	b.word(word)
	b.mayEnd()
	where.branch = true
	return []api.Stmt{b.statement(where)}
}

func (b *builder) ifThen(s *api.Stmt, where place) {
	b.keyword("IF")
	s.Exprs = []api.Expr{b.expr(3, "THEN")}
	b.mayEnd()
	if !where.closed && b.in(2) {
		s.Body = b.branch("THEN", where)
		return
	}
	s.Body = b.branch("THEN", place{depth: where.depth, closed: true})
	s.Else = b.branch("ELSE", where)
}

func (b *builder) selectWhen(s *api.Stmt, where place) {
	b.word("SELECT")
	b.end()
	for range 1 + b.Intn(3) {
		when := api.When{Line: b.line()}
		b.keyword("WHEN")
		when.Cond = b.expr(3, "THEN")
		b.mayEnd()
		when.Body = b.branch("THEN", place{depth: where.depth})
		s.Whens = append(s.Whens, when)
	}
	if b.in(2) {
		s.N = 1
		b.word("OTHERWISE")
		b.mayEnd()
		s.Else = b.statements(2, place{depth: where.depth})
	}
	b.word("END")
	b.end()
}

func (b *builder) loop(s *api.Stmt, where place) {
	ends := []string{"TO", "BY", "FOR", "WHILE", "UNTIL"}
	b.keyword("DO")
	s.Loop = b.Intn(5)
	switch s.Loop {
	case api.LpForever:
		b.keyword("FOREVER")
	case api.LpCount:
		s.Exprs = []api.Expr{b.inCount()}
		b.gap()
	case api.LpOver:
		s.Name = b.one("I", "A.B", "TO", "WHILE", "FOREVER", "END")
		b.word(s.Name)
		b.maybe()
		b.put("=")
		b.maybe()
		s.Exprs = []api.Expr{b.expr(2, ends...)}
		for _, kind := range b.Perm(3)[:b.Intn(4)] {
			b.gap()
			b.keyword(ends[kind])
			s.Reps = append(s.Reps, api.Rep{Kind: kind + 1, Expr: b.expr(2, ends...)})
		}
		b.gap()
	}
	if s.Loop == api.LpCond || s.Loop != api.LpNone && b.in(3) {
		s.Test = 1 + b.Intn(2)
		b.keyword(ends[2+s.Test])
		s.Cond = []api.Expr{b.expr(2, ends...)}
	}
	b.end()
	s.Body = b.statements(3, where)
	b.word("END")
	if s.Loop == api.LpOver && b.in(2) {
		b.gap()
		b.word(s.Name)
	}
	b.end()
}

// inCount writes the count of a loop, which must not look like FOREVER or a control variable.
func (b *builder) inCount() api.Expr {
	b.ends, b.open = nil, 0
	return b.inParens(func() api.Expr { return b.binary(0, 2) })
}

// program returns a random source with up to n statements at its top level, and its tree.
func program(d dice, n int) (string, []api.Stmt) {
	b := &builder{dice: d}
	b.text.WriteString(b.one("", "", "\n", "/* a\n */", ";"))
	list := b.statements(n, place{depth: 3, top: true})
	return strings.TrimSuffix(b.text.String(), b.one("", "\n")), list
}
