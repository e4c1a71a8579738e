package syn

import (
	"iter"
	"slices"

	"qanat/api"
)

// Same reports whether two lists of statements are equal, except for their lines.
func Same(a, b []api.Stmt) bool { return slices.EqualFunc(a, b, isSameStmt) }

func isSameStmt(a, b api.Stmt) bool {
	return a.Kind == b.Kind && a.Name == b.Name && a.Word == b.Word && a.N == b.N && a.Loop == b.Loop && a.Test == b.Test &&
		slices.EqualFunc(a.Exprs, b.Exprs, SameExpr) && slices.Equal(a.Items, b.Items) && slices.Equal(a.Tmpl, b.Tmpl) &&
		slices.EqualFunc(a.Cond, b.Cond, SameExpr) && slices.EqualFunc(a.Reps, b.Reps, isSameRep) &&
		Same(a.Body, b.Body) && Same(a.Else, b.Else) && slices.EqualFunc(a.Whens, b.Whens, isSameWhen)
}

func isSameRep(a, b api.Rep) bool { return a.Kind == b.Kind && SameExpr(a.Expr, b.Expr) }

func isSameWhen(a, b api.When) bool { return SameExpr(a.Cond, b.Cond) && Same(a.Body, b.Body) }

// SameExpr reports whether two expressions are equal.
func SameExpr(a, b api.Expr) bool {
	return a.Kind == b.Kind && a.Text == b.Text && a.N == b.N && slices.EqualFunc(a.Kids, b.Kids, SameExpr)
}

// every yields statements and those in their bodies, in the order in which they begin in the text.
func every(list []api.Stmt) iter.Seq[api.Stmt] {
	return func(yield func(api.Stmt) bool) { visit(list, yield) }
}

// visit calls yield for statements and those in their bodies, as long as it returns true.
func visit(list []api.Stmt, yield func(api.Stmt) bool) bool {
	for _, s := range list {
		if !yield(s) || !visit(s.Body, yield) {
			return false
		}
		for _, when := range s.Whens {
			if !visit(when.Body, yield) {
				return false
			}
		}
		if !visit(s.Else, yield) {
			return false
		}
	}
	return true
}

// Count returns the number of statements, including those in bodies.
func Count(l []api.Stmt) int {
	n := 0
	for range every(l) {
		n++
	}
	return n
}

// Nth returns the n-th statement in the order of the text.
func Nth(l []api.Stmt, n int) (api.Stmt, api.Errno) {
	k := 0
	for s := range every(l) {
		if k == n {
			return copyOf(s), api.OK
		}
		k++
	}
	return api.Stmt{}, api.ErrNone
}

// mapped returns what change makes of each element of a list.
func mapped[T any](list []T, change func(T) T) []T {
	var changed []T
	for _, x := range list {
		changed = append(changed, change(x))
	}
	return changed
}

// copyOf returns a statement that shares no memory with s.
func copyOf(s api.Stmt) api.Stmt {
	s.Exprs, s.Cond = mapped(s.Exprs, copyOfExpr), mapped(s.Cond, copyOfExpr)
	s.Items, s.Tmpl = slices.Clone(s.Items), slices.Clone(s.Tmpl)
	s.Body, s.Else = mapped(s.Body, copyOf), mapped(s.Else, copyOf)
	s.Whens = mapped(s.Whens, func(w api.When) api.When {
		w.Cond, w.Body = copyOfExpr(w.Cond), mapped(w.Body, copyOf)
		return w
	})
	s.Reps = mapped(s.Reps, func(r api.Rep) api.Rep {
		r.Expr = copyOfExpr(r.Expr)
		return r
	})
	return s
}

func copyOfExpr(e api.Expr) api.Expr {
	e.Kids = mapped(e.Kids, copyOfExpr)
	return e
}
