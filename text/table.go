package text

import "qanat/api"

// table has for each byte the one that replaces it.
type table [256]byte

// sameTable returns the table that changes nothing.
func sameTable() table {
	var t table
	for k := range t {
		t[k] = byte(k)
	}
	return t
}

func (t *table) replace(x byte) byte { return t[x] }

// replaced returns s with each of its bytes replaced.
func replaced(s string, replace func(byte) byte) string {
	list := []byte(s)
	for k, x := range list {
		list[k] = replace(x)
	}
	return string(list)
}

// Translate returns s with each byte that is in in replaced by the byte of out at the same position, or by pad if there is none.
func Translate(s, out, in string, pad byte) (string, api.Errno) {
	if !areValid(s, out, in) || !arePads(pad) {
		return "", api.ErrArg
	}
	t := sameTable()
	out = fitted(out, len(in), pad)
	for k := len(in) - 1; k >= 0; k-- { // downward, so that the first occurrence has the last word
		t[in[k]] = out[k]
	}
	return replaced(s, t.replace), api.OK
}

// Upper returns s in capital letters.
func Upper(s string) (string, api.Errno) {
	return moved(s, 'a', 'z', 'A')
}

// Lower returns s in small letters.
func Lower(s string) (string, api.Errno) {
	return moved(s, 'A', 'Z', 'a')
}

// moved returns s in which the bytes from first to last are replaced by those from target on.
func moved(s string, first, last, target byte) (string, api.Errno) {
	if !areValid(s) {
		return "", api.ErrArg
	}
	return replaced(s, func(x byte) byte {
		if x < first || x > last {
			return x
		}
		return x - first + target
	}), api.OK
}

// Xrange returns the bytes from from on, up to to; the greatest one is followed by the least one.
func Xrange(from, to byte) (string, api.Errno) {
	if !arePads(from, to) {
		return "", api.ErrArg
	}
	list := []byte{from}
	for x := from; x != to; {
		x++
		if x > greatestByte {
			x = leastByte
		}
		list = append(list, x)
	}
	return string(list), api.OK
}
