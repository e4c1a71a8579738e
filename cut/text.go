package cut

import (
	"strconv"
	"strings"

	"qanat/api"
)

// partText formats a part.
func partText(p api.Part) string {
	sign := ""
	switch p.Kind {
	case api.TpDot:
		return "."
	case api.TpComma:
		return ","
	case api.TpVar:
		return p.Text
	case api.TpLit:
		return "'" + strings.ReplaceAll(p.Text, "'", "''") + "'"
	case api.TpAbs, api.TpAbsVar:
		sign = "="
	case api.TpPlus, api.TpPlusVar:
		sign = "+"
	case api.TpMinus, api.TpMinusVar:
		sign = "-"
	}
	if isByVariable(p) {
		return sign + "(" + p.Text + ")"
	}
	return sign + strconv.Itoa(p.N)
}

// joined joins words with one blank between them.
func joined(words ...string) string { return strings.Join(words, " ") }
