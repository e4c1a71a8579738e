package syn_test

import (
	"strings"
	"testing"

	"qanat/api"
)

// P5.1: readings of the chapter where it could be read in other ways, too.
func TestReadings(t *testing.T) {
	checkWrong(t, []wrong{
		// The codes of the table come before those of any clause, also where a clause could end.
		{"do; end\n; do\nend,\n)", 20, 4}, {"do; end ,;", 20, 1}, {"address ,;", 19, 1}, {"address )", 19, 1}, {"address \\", 19, 1}, {"call on halt ,;", 25, 1}, {"call on halt )", 25, 1}, {"signal on syntax \\", 25, 1}, {"drop a, b", 20, 1}, {"drop a )", 20, 1}, {"drop a,\n\\", 20, 2}, {"procedure expose a ,;", 20, 1}, {"procedure ,;", 25, 1}, {"iterate ,;", 20, 1}, {"leave )", 20, 1}, {"select )", 21, 1}, {"select ,;", 21, 1}, {"select; when a then b; end )", 20, 1}, {"trace )", 21, 1}, {"trace ,;", 21, 1}, {"numeric form x", 25, 1}, {"numeric form 'scientific'", 25, 1},
		// A word of DO cannot stand where a phrase could begin; where an operand is expected, that is missing.
		{"do to 3; end", 27, 1}, {"do by; end", 27, 1}, {"do for 3; end", 27, 1}, {"do to(3); end", 27, 1}, {"do i = to 3; end", 35, 1}, {"do i = 1 to by 3; end", 35, 1}, {"do while until a; end", 35, 1}, {"do 1 + to; end", 35, 1}, {"do - while a; end", 35, 1},
		// A clause that is an assignment or a label is not the expected word, whatever its symbol.
		{"if a\nthen = b", 18, 2}, {"if a\nthen: b", 18, 2}, {"select; when = 1", 7, 1}, {"select; when: a", 7, 1}, {"select; when a then b; otherwise = 1", 7, 1}, {"select; when a then b\nend = 1", 7, 2}, {"select; when a then b; end: c", 7, 1},
		// THEN is expected on the next line, too.
		{"if a\n) then", 37, 2}, {"if a\n\\then", 35, 2},
		// An argument, or the expression of PARSE VALUE, is missing at the end of the clause; not before any other token.
		{"say f(", 36, 1}, {"say f(a,;", 36, 1}, {"say f(,", 36, 1}, {"say f(:)", 35, 1}, {"parse value", 25, 1},
		// The second token of a clause is needed only where it matters.
		{") #", 37, 1}, {"select; say #", 7, 1}, {"if a; say #", 18, 1}, {"if a then procedure #", 13, 1},
	})
	deep := strings.Repeat("do\n", api.MaxNest)
	checkWrong(t, []wrong{{deep + "x #", 11, api.MaxNest + 1}, {deep + "say #", 11, api.MaxNest + 1}, {deep + "then #", 13, api.MaxNest + 1}})
	checkParse(t, [][2]string{
		{"if a then b; else = 1", "{1:if exprs=A body={1:command exprs=B}; 1:assign name=ELSE exprs=#1}"},
		{"if a then b; else: c", "{1:if exprs=A body={1:command exprs=B}; 1:label name=ELSE; 1:command exprs=C}"},
	})
}

// P5.3: the same for texts.
func TestTextReadings(t *testing.T) {
	checkPrint(t, [][2]string{
		{"if a then b;else = 1", "IF A THEN\nB\nELSE = 1\n"},
		{"trace ''", "TRACE\n"},
		// In parentheses the symbol does not begin the count.
		{"do (while)=3;end", "DO (WHILE) = 3\nEND\n"},
		// ARG and PULL would be assignments here (P5.8).
		{"parse upper arg =(a) b", "PARSE UPPER ARG =(A) B\n"}, {"parse upper pull = (a),;", "PARSE UPPER PULL =(A), ;\n"}, {"parse upper arg =5 =(a)", "ARG 5 =(A)\n"}, {"parse upper arg '=' +(a)", "ARG '=' +(A)\n"},
	})
}
