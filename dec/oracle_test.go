package dec_test

import (
	"math/big"
	"math/rand"
	"strings"
	"testing"

	"qanat/api"
	"qanat/dec"
)

// An oracle of exact arithmetic on math/big, which shares no code with the package.

// exact is the integer n times 10 to the power exp.
type exact struct {
	n   *big.Int
	exp int
}

func num(neg bool, digits string, exp int) api.Num {
	return api.Num{Neg: neg, Digits: digits, Exp: exp}
}

var zero = num(false, "0", 0)

func nines(count int) string { return strings.Repeat("9", count) }

func pow10(n int) *big.Int {
	return new(big.Int).Exp(big.NewInt(10), big.NewInt(int64(n)), nil)
}

func exactOf(n api.Num) exact {
	i, ok := new(big.Int).SetString(n.Digits, 10)
	if !ok {
		panic("not a number: " + n.Digits)
	}
	if n.Neg {
		i.Neg(i)
	}
	return exact{i, n.Exp}
}

// numOf returns an exact value as a number, in range or not.
func numOf(x exact) api.Num {
	if x.n.Sign() == 0 {
		return zero
	}
	return num(x.n.Sign() < 0, new(big.Int).Abs(x.n).String(), x.exp)
}

func ratOf(n api.Num) *big.Rat {
	x := exactOf(n)
	r := new(big.Rat).SetInt(x.n)
	if x.exp < 0 {
		return r.Quo(r, new(big.Rat).SetInt(pow10(-x.exp)))
	}
	return r.Mul(r, new(big.Rat).SetInt(pow10(x.exp)))
}

// oracleRound rounds half up, away from zero; the result may be out of range.
func oracleRound(x exact, digits int) exact {
	size := len(new(big.Int).Abs(x.n).String())
	if size <= digits {
		return x
	}
	unit := pow10(size - digits)
	q, r := new(big.Int).QuoRem(new(big.Int).Abs(x.n), unit, new(big.Int))
	if r.Lsh(r, 1).Cmp(unit) >= 0 {
		q.Add(q, big.NewInt(1))
	}
	exp := x.exp + size - digits
	if q.Cmp(pow10(digits)) == 0 {
		q = pow10(digits - 1)
		exp++
	}
	if x.n.Sign() < 0 {
		q.Neg(q)
	}
	return exact{q, exp}
}

func outOfRange(x exact) bool {
	n := numOf(x)
	adjusted := n.Exp + len(n.Digits) - 1
	return n != zero && (adjusted < -api.MaxExp || adjusted > api.MaxExp)
}

func oracleStrip(x exact) exact {
	n := numOf(x)
	if n == zero {
		return x
	}
	short := strings.TrimRight(n.Digits, "0")
	return exactOf(num(n.Neg, short, n.Exp+len(n.Digits)-len(short)))
}

// finish rounds an exact result to a number.
func finish(x exact, digits int) (api.Num, api.Errno) {
	r := oracleRound(x, digits)
	if outOfRange(r) {
		return api.Num{}, api.ErrRange
	}
	return numOf(r), api.OK
}

// align returns both integers for the smaller exponent.
func align(x, y exact) (*big.Int, *big.Int, int) {
	exp := min(x.exp, y.exp)
	return new(big.Int).Mul(x.n, pow10(x.exp-exp)), new(big.Int).Mul(y.n, pow10(y.exp-exp)), exp
}

func oracleSum(x, y exact) exact {
	if x.n.Sign() == 0 {
		return y
	}
	if y.n.Sign() == 0 {
		return x
	}
	a, b, exp := align(x, y)
	return exact{a.Add(a, b), exp}
}

func oracleProduct(x, y exact) exact {
	return exact{new(big.Int).Mul(x.n, y.n), x.exp + y.exp}
}

// oracleQuotient returns the quotient, rounded and stripped, and the proof.
func oracleQuotient(x, y exact, digits int) (exact, api.DivProof) {
	xs, ys := new(big.Int).Abs(x.n), new(big.Int).Abs(y.n)
	k := 0
	for len(xs.String())+k < digits+len(ys.String())+1 {
		k++
	}
	if xs.Sign() == 0 {
		return exact{xs, 0}, api.DivProof{Quot: "0", Rest: "0"}
	}
	q, r := new(big.Int).QuoRem(xs.Mul(xs, pow10(k)), ys, new(big.Int))
	proof := api.DivProof{Quot: q.String(), Rest: r.String()}
	if x.n.Sign() != y.n.Sign() {
		q.Neg(q)
	}
	return oracleStrip(oracleRound(exact{q, x.exp - y.exp - k}, digits)), proof
}

func oraclePower(x exact, n, digits int) exact {
	p := exact{new(big.Int).Exp(x.n, big.NewInt(int64(max(n, -n))), nil), x.exp * max(n, -n)}
	if n < 0 {
		p, _ = oracleQuotient(exact{big.NewInt(1), 0}, p, digits)
	}
	return p
}

// draw returns a random digit, often one that matters to carries and rounding.
func draw(r *rand.Rand) byte {
	if r.Intn(2) == 0 {
		return "0459"[r.Intn(4)]
	}
	return byte('0' + r.Intn(10))
}

// randomNum returns a valid number: mostly small exponents, some at the bounds, sometimes zero.
func randomNum(r *rand.Rand, length int) api.Num {
	if r.Intn(20) == 0 {
		return zero
	}
	digits := make([]byte, 1+r.Intn(length))
	for i := range digits {
		digits[i] = draw(r)
	}
	if digits[0] == '0' {
		digits[0] = '9'
	}
	adjusted := r.Intn(25) - 12
	switch r.Intn(12) {
	case 0:
		adjusted = api.MaxExp - r.Intn(3)
	case 1:
		adjusted = -api.MaxExp + r.Intn(3)
	case 2:
		adjusted = r.Intn(2*api.MaxExp+1) - api.MaxExp
	}
	return num(r.Intn(2) == 0, string(digits), adjusted-len(digits)+1)
}

// randomDigits returns a number of digits to calculate with.
func randomDigits(r *rand.Rand) int {
	if r.Intn(2) == 0 {
		return 1 + r.Intn(5)
	}
	return 1 + r.Intn(api.MaxDigits)
}

// eachPair calls check with random pairs of numbers and numbers of digits.
func eachPair(t *testing.T, seed int64, count int, check func(a, b api.Num, digits int)) {
	t.Helper()
	r := rand.New(rand.NewSource(seed))
	for range count {
		length := 12
		if r.Intn(4) == 0 {
			length = 60
		}
		a, b := randomNum(r, length), randomNum(r, length)
		check(a, b, randomDigits(r))
		if t.Failed() {
			return
		}
	}
}

// badNums are numbers that are not valid.
func badNums() []api.Num {
	return []api.Num{
		{}, num(false, "", 0), num(true, "0", 0), num(false, "0", 1), num(false, "0", -1), num(false, "00", 0), num(false, "01", 0),
		num(false, "1a", 0), num(false, "-1", 0), num(false, " 1", 0), num(false, "1.", 0), num(false, "1/", 0), num(false, "1:", 0),
		num(false, "1", api.MaxExp+1), num(false, "1", -api.MaxExp-1), num(false, "12", api.MaxExp), num(false, "12", -api.MaxExp-2),
		num(false, strings.Repeat("1", api.MaxString+1), 0), num(false, strings.Repeat("1", api.MaxString), 1),
		num(false, "12", int(^uint(0)>>1)), num(false, "12", -int(^uint(0)>>1)-1),
	}
}

// goodNums are valid numbers at the bounds.
func goodNums() []api.Num {
	return []api.Num{
		zero, num(true, "1", 0), num(false, "10", 0), num(false, "1", api.MaxExp), num(false, "1", -api.MaxExp),
		num(false, "12", api.MaxExp-1), num(false, "12", -api.MaxExp-1), num(false, strings.Repeat("1", api.MaxString), 0),
		num(true, nines(api.MaxString), -2*api.MaxExp), num(false, nines(api.MaxString), -api.MaxString),
	}
}

// badSettings are settings that are not valid.
func badSettings() []api.Settings {
	return []api.Settings{
		{}, {Digits: 0}, {Digits: -1}, {Digits: api.MaxDigits + 1}, {Digits: 9, Fuzz: -1}, {Digits: 9, Fuzz: 9}, {Digits: 1, Fuzz: 1},
		{Digits: 9, Form: -1}, {Digits: 9, Form: 2},
	}
}

// TestArguments: every function with numbers, digits or settings tells ErrArg, with zero values.
func TestArguments(t *testing.T) {
	one := num(false, "1", 0)
	two := func(name string, f func(a, b api.Num, digits int) (api.Num, api.Errno)) {
		for _, bad := range badNums() {
			if n, e := f(bad, one, 9); e != api.ErrArg || n != (api.Num{}) {
				t.Errorf("%s(%v, 1): %v %v", name, bad, n, e)
			}
			if n, e := f(one, bad, 9); e != api.ErrArg || n != (api.Num{}) {
				t.Errorf("%s(1, %v): %v %v", name, bad, n, e)
			}
		}
		for _, digits := range []int{-1, 0, api.MaxDigits + 1} {
			if n, e := f(one, one, digits); e != api.ErrArg || n != (api.Num{}) {
				t.Errorf("%s with %d digits: %v %v", name, digits, n, e)
			}
		}
		for _, good := range goodNums() {
			if _, e := f(one, good, 9); e == api.ErrArg {
				t.Errorf("%s(1, %v): %v", name, good, e)
			}
		}
	}
	two("Add", dec.Add)
	two("Sub", dec.Sub)
	two("Mul", dec.Mul)
	two("IDiv", dec.IDiv)
	two("Rem", dec.Rem)
	two("Div", func(a, b api.Num, digits int) (api.Num, api.Errno) {
		n, p, e := dec.Div(a, b, digits)
		if e != api.OK && p != (api.DivProof{}) {
			t.Errorf("Div(%v, %v, %d): %v with %v", a, b, digits, p, e)
		}
		return n, e
	})
	two("Round", func(a, b api.Num, digits int) (api.Num, api.Errno) {
		if n, e := dec.Round(a, digits); e != api.OK {
			return n, e
		}
		return dec.Round(b, digits)
	})
	two("Pow", func(a, b api.Num, digits int) (api.Num, api.Errno) {
		if n, e := dec.Pow(a, 1, digits); e != api.OK {
			return n, e
		}
		return dec.Pow(b, 0, digits)
	})
	two("CheckRound", func(a, b api.Num, digits int) (api.Num, api.Errno) {
		return api.Num{}, dec.CheckRound(a, b, digits)
	})
	two("CheckDiv", func(a, b api.Num, digits int) (api.Num, api.Errno) {
		return api.Num{}, dec.CheckDiv(a, one, digits, b, api.DivProof{})
	})
	two("CheckDiv", func(a, b api.Num, digits int) (api.Num, api.Errno) {
		return api.Num{}, dec.CheckDiv(one, a, digits, b, api.DivProof{})
	})
	two("Int", func(a, b api.Num, digits int) (api.Num, api.Errno) {
		for _, n := range []api.Num{a, b} {
			if i, e := dec.Int(n, digits); e == api.ErrArg {
				return num(false, "", i), e
			}
		}
		return zero, api.OK
	})
	two("Compare", func(a, b api.Num, digits int) (api.Num, api.Errno) {
		i, e := dec.Compare(a, b, api.Settings{Digits: digits})
		return num(false, "", i), e
	})
	for _, s := range badSettings() {
		if text, e := dec.Tell(one, s); e != api.ErrArg || text != "" {
			t.Errorf("Tell with %v: %q %v", s, text, e)
		}
		if i, e := dec.Compare(one, zero, s); e != api.ErrArg || i != 0 {
			t.Errorf("Compare with %v: %d %v", s, i, e)
		}
		if text, code, e := dec.Op("+", "1", "1", s); e != api.ErrArg || text != "" || code != 0 {
			t.Errorf("Op + with %v: %q %d %v", s, text, code, e)
		}
		if text, code, e := dec.Op("=", "a", "a", s); e != api.ErrArg || text != "" || code != 0 {
			t.Errorf("Op = with %v: %q %d %v", s, text, code, e)
		}
		if text, code, e := dec.Front("\\", "1", s); e != api.ErrArg || text != "" || code != 0 {
			t.Errorf("Front with %v: %q %d %v", s, text, code, e)
		}
	}
	for _, bad := range badNums() {
		if text, e := dec.Tell(bad, api.Settings{Digits: 9}); e != api.ErrArg || text != "" {
			t.Errorf("Tell of %v: %q %v", bad, text, e)
		}
	}
}
