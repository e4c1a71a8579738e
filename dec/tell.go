package dec

import (
	"strconv"
	"strings"

	"qanat/api"
)

// engineering is the setting FORM under which exponents are multiples of 3.
const engineering = 1

// Tell formats a number.
func Tell(n api.Num, s api.Settings) (string, api.Errno) {
	if !areSettings(s) || !isValid(n) {
		return "", api.ErrArg
	}
	adjusted := n.Exp + len(n.Digits) - 1
	text := ""
	if adjusted >= s.Digits || n.Exp < -2*s.Digits {
		text = exponential(n.Digits, adjusted, s.Form)
	} else {
		text = plain(n.Digits, n.Exp)
	}
	if n.Neg {
		text = "-" + text
	}
	return text, api.OK
}

// plain writes a number without an exponent.
func plain(digits string, exp int) string {
	if exp >= 0 {
		return digits + strings.Repeat("0", exp)
	}
	before := len(digits) + exp
	if before <= 0 {
		return "0." + strings.Repeat("0", -before) + digits
	}
	return digits[:before] + "." + digits[before:]
}

// exponential writes a number with the given adjusted exponent.
func exponential(digits string, adjusted, form int) string {
	exp := adjusted
	if form == engineering {
		// The remainder of Go has the sign of the dividend.
		exp -= (adjusted%3 + 3) % 3
	}
	before := adjusted - exp + 1
	digits += strings.Repeat("0", max(0, before-len(digits)))
	text := digits[:before]
	if len(digits) > before {
		text += "." + digits[before:]
	}
	sign := "+"
	if exp < 0 {
		sign = "-"
		exp = -exp
	}
	return text + "E" + sign + strconv.Itoa(exp)
}
