package cut

import "qanat/api"

// isTarget reports whether a part receives a piece.
func isTarget(p api.Part) bool { return p.Kind == api.TpVar || p.Kind == api.TpDot }

// isNoTarget reports whether a part ends a run of targets.
func isNoTarget(p api.Part) bool { return !isTarget(p) }

// isRelative reports whether a part is a relative column.
func isRelative(p api.Part) bool {
	switch p.Kind {
	case api.TpPlus, api.TpMinus, api.TpPlusVar, api.TpMinusVar:
		return true
	}
	return false
}

// isByVariable reports whether a part is a variable pattern.
func isByVariable(p api.Part) bool {
	switch p.Kind {
	case api.TpLitVar, api.TpAbsVar, api.TpPlusVar, api.TpMinusVar:
		return true
	}
	return false
}

// partError returns the error of a part.
func partError(p api.Part) api.Errno {
	formed := api.Part{Kind: p.Kind} // the part with no more in it than its kind may have
	switch p.Kind {
	case api.TpDot, api.TpComma:
	case api.TpAbs, api.TpPlus, api.TpMinus:
		formed.N = min(max(p.N, 0), api.MaxColumn)
	case api.TpVar, api.TpLit, api.TpLitVar, api.TpAbsVar, api.TpPlusVar, api.TpMinusVar:
		formed.Text = p.Text
	default:
		return api.ErrForm
	}
	switch {
	case p != formed:
		return api.ErrForm
	case p.Kind == api.TpVar && !isVariable(p.Text), isByVariable(p) && !isSimple(p.Text):
		return api.ErrName
	case p.Kind == api.TpLit && !isString(p.Text):
		return api.ErrArg
	}
	return api.OK
}

// stringsError returns the error of the strings of a call.
func stringsError(strs []string) api.Errno {
	if len(strs) > api.MaxStrings {
		return api.ErrLimit
	}
	for _, s := range strs {
		if !isString(s) {
			return api.ErrArg
		}
	}
	return api.OK
}

// varsError returns the error of the variables of a call.
func varsError(vars []api.Pair) api.Errno {
	if len(vars) > api.MaxVars {
		return api.ErrLimit
	}
	known := map[string]bool{}
	for _, pair := range vars {
		if known[pair.Name] {
			return api.ErrTwice
		}
		known[pair.Name] = true
	}
	for _, pair := range vars {
		if !isString(pair.Value) {
			return api.ErrArg
		}
	}
	return api.OK
}

// callError returns the error of the arguments of a call that applies a template.
func callError(t []api.Part, strs []string, vars []api.Pair) api.Errno {
	if e := Check(t); e != api.OK {
		return e
	}
	if e := stringsError(strs); e != api.OK {
		return e
	}
	return varsError(vars)
}
