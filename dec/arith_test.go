package dec_test

import (
	"math/big"
	"math/rand"
	"strings"
	"testing"

	"qanat/api"
	"qanat/dec"
)

// P1.3: Round and CheckRound on named numbers.
func TestRound(t *testing.T) {
	for _, c := range []struct {
		n      api.Num
		digits int
		want   api.Num
	}{
		{num(false, "12345", 0), 3, num(false, "123", 2)}, {num(false, "12350", 0), 3, num(false, "124", 2)}, {num(false, "12349", 0), 3, num(false, "123", 2)},
		{num(false, "9995", 0), 3, num(false, "100", 2)}, {num(true, "9995", 0), 3, num(true, "100", 2)}, {num(false, "9994", 0), 3, num(false, "999", 1)},
		{num(false, "5", 0), 1, num(false, "5", 0)}, {num(false, "15", 0), 1, num(false, "2", 1)}, {num(true, "25", 0), 1, num(true, "3", 1)}, {num(false, "95", 0), 1, num(false, "1", 2)},
		{num(false, "1000", 0), 2, num(false, "10", 2)}, {num(false, "1000", 0), 4, num(false, "1000", 0)}, {num(false, "1000", 0), 40, num(false, "1000", 0)},
		{num(false, "19995", -4), 4, num(false, "2000", -3)}, {num(false, nines(1000), -500), 1, num(false, "1", 500)}, {zero, 1, zero},
		{num(false, "994", 997), 2, num(false, "99", 998)}, {num(false, "99", -1000), 1, num(false, "1", -998)},
	} {
		if n, e := dec.Round(c.n, c.digits); e != api.OK || n != c.want {
			t.Errorf("Round(%.40v, %d): %v %v, want %v", c.n, c.digits, n, e, c.want)
		}
		if e := dec.CheckRound(c.n, c.want, c.digits); e != api.OK {
			t.Errorf("CheckRound(%.40v, %v, %d): %v", c.n, c.want, c.digits, e)
		}
	}
	over := num(false, "995", 997)
	if n, e := dec.Round(over, 2); e != api.ErrRange || n != (api.Num{}) {
		t.Error("Round out of range:", n, e)
	}
	for _, m := range []api.Num{over, zero, num(false, "99", 998), num(false, "10", 998)} {
		if e := dec.CheckRound(over, m, 2); e != api.ErrProof {
			t.Errorf("CheckRound out of range accepts %v: %v", m, e)
		}
	}
}

// P1.3, P1.11: Round against the oracle; it is idempotent and symmetric, and at most half a unit of the last place away.
func TestRoundRandom(t *testing.T) {
	half := big.NewRat(1, 2)
	eachPair(t, 4, 20000, func(a, b api.Num, digits int) {
		n, e := dec.Round(a, digits)
		want, wantE := finish(exactOf(a), digits)
		if n != want || e != wantE {
			t.Fatalf("Round(%v, %d): %v %v, want %v %v", a, digits, n, e, want, wantE)
		}
		if e != api.OK {
			return
		}
		if again, e := dec.Round(n, digits); e != api.OK || again != n {
			t.Fatalf("Round(%v, %d) is not idempotent: %v %v", a, digits, again, e)
		}
		if m, e := dec.Round(negated(a), digits); e != api.OK || m != negated(n) {
			t.Fatalf("Round(%v, %d) is not symmetric: %v %v", a, digits, m, e)
		}
		unit := ratOf(num(false, "1", n.Exp))
		if away := new(big.Rat).Sub(ratOf(a), ratOf(n)); away.Abs(away).Cmp(unit.Mul(unit, half)) > 0 {
			t.Fatalf("Round(%v, %d): %v is too far away", a, digits, n)
		}
		for _, m := range []api.Num{n, a, b, negated(n), num(n.Neg, n.Digits, n.Exp+1), num(n.Neg, n.Digits+"0", n.Exp-1)} {
			wantE := api.ErrProof
			if dec.Check(m) != api.OK {
				wantE = api.ErrArg
			} else if m == n {
				wantE = api.OK
			}
			if e := dec.CheckRound(a, m, digits); e != wantE {
				t.Fatalf("CheckRound(%v, %v, %d): %v, want %v", a, m, digits, e, wantE)
			}
		}
	})
}

// negated returns -n.
func negated(n api.Num) api.Num {
	if n != zero {
		n.Neg = !n.Neg
	}
	return n
}

// rounds returns the exact values of the rounded operands, and whether they are in range.
func rounds(a, b api.Num, digits int) (x, y exact, ok bool) {
	x, y = oracleRound(exactOf(a), digits), oracleRound(exactOf(b), digits)
	return x, y, !outOfRange(x) && !outOfRange(y)
}

// P1.4: Add, Sub and Mul on named numbers.
func TestSums(t *testing.T) {
	type call struct {
		f      func(a, b api.Num, digits int) (api.Num, api.Errno)
		a, b   api.Num
		digits int
		want   api.Num
		e      api.Errno
	}
	out := api.Num{}
	for i, c := range []call{
		{dec.Add, num(false, "120", -2), num(false, "30", -2), 9, num(false, "150", -2), api.OK},
		{dec.Add, num(false, "1", 12), zero, 9, num(false, "1", 12), api.OK},
		{dec.Add, zero, num(true, "150", -2), 9, num(true, "150", -2), api.OK},
		{dec.Add, zero, zero, 9, zero, api.OK},
		{dec.Add, num(false, "1", 0), num(true, "100", -2), 9, zero, api.OK},
		{dec.Add, num(false, "1", 2), num(false, "1", 0), 9, num(false, "101", 0), api.OK},
		{dec.Add, num(false, "1000000000", 0), num(false, "1", 0), 9, num(false, "100000000", 1), api.OK},
		{dec.Add, num(false, "9999", 0), num(false, "1", 0), 4, num(false, "1000", 1), api.OK},
		{dec.Add, num(false, "1", 999), num(false, "1", -999), 40, num(false, "1"+strings.Repeat("0", 39), 960), api.OK},
		{dec.Add, num(false, "9", 999), num(false, "1", 999), 9, out, api.ErrRange},
		{dec.Add, num(false, "995", 997), num(true, "995", 997), 2, out, api.ErrRange},
		{dec.Add, num(false, "11", -1000), num(true, "10", -1000), 9, out, api.ErrRange},
		{dec.Sub, zero, num(false, "150", -2), 9, num(true, "150", -2), api.OK},
		{dec.Sub, num(false, "150", -2), zero, 9, num(false, "150", -2), api.OK},
		{dec.Sub, zero, zero, 9, zero, api.OK},
		{dec.Sub, num(false, "10", 0), num(false, "100", -1), 9, zero, api.OK},
		{dec.Sub, num(false, "1", 0), num(false, "1001", -3), 9, num(true, "1", -3), api.OK},
		{dec.Sub, num(false, "10000", 0), num(false, "1", 0), 4, num(false, "9999", 0), api.OK},
		{dec.Mul, num(false, "15", -1), num(false, "2", 0), 9, num(false, "30", -1), api.OK},
		{dec.Mul, num(true, "15", -1), num(true, "20", -1), 9, num(false, "300", -2), api.OK},
		{dec.Mul, zero, num(true, "20", -1), 9, zero, api.OK},
		{dec.Mul, num(false, "99", 0), num(true, "99", 0), 2, num(true, "98", 2), api.OK},
		{dec.Mul, num(false, "1", 500), num(false, "1", 500), 9, out, api.ErrRange},
		{dec.Mul, num(false, "1", -500), num(false, "1", -500), 9, out, api.ErrRange},
		{dec.Mul, num(false, "1", -500), num(false, "1", -499), 9, num(false, "1", -999), api.OK},
		{dec.Mul, num(false, "83", -501), num(false, "12", -501), 2, num(false, "10", -1000), api.OK},
		{dec.Mul, num(false, "83", -501), num(false, "12", -501), 3, out, api.ErrRange},
	} {
		if n, e := c.f(c.a, c.b, c.digits); e != c.e || n != c.want {
			t.Errorf("call %d of %v, %v with %d: %v %v, want %v %v", i, c.a, c.b, c.digits, n, e, c.want, c.e)
		}
	}
}

// P1.4: Add, Sub and Mul against the oracle.
func TestSumsRandom(t *testing.T) {
	eachPair(t, 5, 30000, func(a, b api.Num, digits int) {
		x, y, ok := rounds(a, b, digits)
		for _, c := range []struct {
			name string
			f    func(a, b api.Num, digits int) (api.Num, api.Errno)
			want exact
		}{
			{"Add", dec.Add, oracleSum(x, y)}, {"Sub", dec.Sub, oracleSum(x, exact{new(big.Int).Neg(y.n), y.exp})}, {"Mul", dec.Mul, oracleProduct(x, y)},
		} {
			want, wantE := finish(c.want, digits)
			if !ok {
				want, wantE = api.Num{}, api.ErrRange
			}
			if n, e := c.f(a, b, digits); n != want || e != wantE {
				t.Fatalf("%s(%v, %v, %d): %v %v, want %v %v", c.name, a, b, digits, n, e, want, wantE)
			}
		}
	})
}

// P1.5: Div and CheckDiv on named numbers.
func TestDiv(t *testing.T) {
	proof := func(quot, rest string) api.DivProof { return api.DivProof{Quot: quot, Rest: rest} }
	for _, c := range []struct {
		a, b   api.Num
		digits int
		want   api.Num
		p      api.DivProof
		e      api.Errno
	}{
		{num(false, "2", 0), num(false, "3", 0), 3, num(false, "667", -3), proof("6666", "2"), api.OK},
		{num(true, "2", 0), num(false, "3", 0), 3, num(true, "667", -3), proof("6666", "2"), api.OK},
		{num(false, "100", 0), num(false, "1", 0), 9, num(false, "1", 2), proof("10000000000", "0"), api.OK},
		{num(false, "1", 0), num(true, "8", 0), 9, num(true, "125", -3), proof("1250000000", "0"), api.OK},
		{num(true, "60", 0), num(true, "2", 0), 1, num(false, "3", 1), proof("300", "0"), api.OK},
		{zero, num(true, "7", 3), 2, zero, proof("0", "0"), api.OK},
		{num(false, "1", 0), num(false, "7777", 0), 2, num(false, "13", -5), proof("128", "16"), api.OK}, // 7777 is rounded to 78E2,
		{num(false, "1", 0), zero, 9, api.Num{}, api.DivProof{}, api.ErrZero},
		{zero, zero, 9, api.Num{}, api.DivProof{}, api.ErrZero},
		{num(false, "995", 997), zero, 2, api.Num{}, api.DivProof{}, api.ErrZero},
		{num(false, "995", 997), num(false, "1", 500), 2, api.Num{}, api.DivProof{}, api.ErrRange},
		{num(false, "1", 500), num(false, "995", 997), 2, api.Num{}, api.DivProof{}, api.ErrRange},
		{num(false, "1", 500), num(false, "1", -500), 9, api.Num{}, api.DivProof{}, api.ErrRange},
		{num(false, "1", -500), num(false, "1", 500), 9, api.Num{}, api.DivProof{}, api.ErrRange},
		{num(false, "1", 499), num(false, "1", -500), 1, num(false, "1", 999), proof("100", "0"), api.OK},
		{num(false, "998", -500), num(false, "999", 499), 3, api.Num{}, api.DivProof{}, api.ErrRange},
	} {
		n, p, e := dec.Div(c.a, c.b, c.digits)
		if n != c.want || p != c.p || e != c.e {
			t.Errorf("Div(%v, %v, %d): %v %v %v, want %v %v %v", c.a, c.b, c.digits, n, p, e, c.want, c.p, c.e)
		}
		if e := dec.CheckDiv(c.a, c.b, c.digits, c.want, c.p); c.e == api.OK && e != api.OK {
			t.Errorf("CheckDiv(%v, %v, %d): %v", c.a, c.b, c.digits, e)
		}
		// Errors of Div come before ErrProof, whatever the proof is.
		for _, p := range []api.DivProof{{}, {Quot: "x"}, {Quot: "1", Rest: "1"}, {Quot: "10", Rest: "0"}} {
			if e := dec.CheckDiv(c.a, c.b, c.digits, zero, p); c.e != api.OK && e != c.e {
				t.Errorf("CheckDiv(%v, %v, %d) with %v: %v, want %v", c.a, c.b, c.digits, p, e, c.e)
			}
		}
	}
}

// P1.5: a right proof of a quotient that is out of range is ErrRange too.
func TestCheckDivRange(t *testing.T) {
	a, b := num(false, "1", 500), num(false, "1", -500)
	right := api.DivProof{Quot: "1" + strings.Repeat("0", 9), Rest: "0"}
	for _, p := range []api.DivProof{right, {Quot: "1", Rest: "0"}} {
		if e := dec.CheckDiv(a, b, 9, zero, p); e != api.ErrRange {
			t.Errorf("CheckDiv with %v: %v", p, e)
		}
	}
}

// forgeries returns proofs that are not the given one.
func forgeries(p api.DivProof, divisor string) []api.DivProof {
	q, _ := new(big.Int).SetString(p.Quot, 10)
	r, _ := new(big.Int).SetString(p.Rest, 10)
	y, _ := new(big.Int).SetString(divisor, 10)
	one := big.NewInt(1)
	list := []api.DivProof{
		{}, {Quot: p.Quot}, {Rest: p.Rest}, {Quot: "0" + p.Quot, Rest: p.Rest}, {Quot: p.Quot, Rest: "0" + p.Rest}, {Quot: "+" + p.Quot, Rest: p.Rest},
		{Quot: p.Quot + " ", Rest: p.Rest}, {Quot: p.Quot, Rest: "-" + p.Rest}, {Quot: p.Quot + "0", Rest: p.Rest}, {Quot: p.Quot, Rest: p.Rest + "0"},
		{Quot: new(big.Int).Add(q, one).String(), Rest: p.Rest}, {Quot: p.Quot, Rest: new(big.Int).Add(r, one).String()},
		{Quot: new(big.Int).Sub(q, one).String(), Rest: new(big.Int).Add(r, y).String()}, {Quot: new(big.Int).Add(q, one).String(), Rest: new(big.Int).Sub(r, y).String()},
		{Quot: p.Quot, Rest: new(big.Int).Add(r, y).String()}, {Quot: strings.Repeat("9", 5000), Rest: p.Rest}, {Quot: p.Quot, Rest: strings.Repeat("9", 5000)},
		{Quot: p.Quot[:len(p.Quot)-1] + ":", Rest: p.Rest}, {Quot: p.Quot[:len(p.Quot)-1] + "/", Rest: p.Rest},
	}
	forged := list[:0]
	for _, f := range list {
		if f != p {
			forged = append(forged, f)
		}
	}
	return forged
}

// P1.5, P1.13: Div against the oracle; CheckDiv accepts its result and no other one.
func TestDivRandom(t *testing.T) {
	eachPair(t, 6, 20000, func(a, b api.Num, digits int) {
		n, p, e := dec.Div(a, b, digits)
		x, y, ok := rounds(a, b, digits)
		if y.n.Sign() == 0 {
			if e != api.ErrZero || n != (api.Num{}) || p != (api.DivProof{}) || dec.CheckDiv(a, b, digits, a, p) != api.ErrZero {
				t.Fatalf("Div(%v, %v, %d): %v %v %v", a, b, digits, n, p, e)
			}
			return
		}
		quotient, wantP := oracleQuotient(x, y, digits)
		want, wantE := finish(quotient, digits)
		if !ok || wantE != api.OK {
			if e != api.ErrRange || n != (api.Num{}) || p != (api.DivProof{}) || dec.CheckDiv(a, b, digits, a, wantP) != api.ErrRange || dec.CheckDiv(a, b, digits, a, p) != api.ErrRange {
				t.Fatalf("Div(%v, %v, %d): %v %v %v", a, b, digits, n, p, e)
			}
			return
		}
		if n != want || p != wantP || e != api.OK {
			t.Fatalf("Div(%v, %v, %d): %v %v %v, want %v %v", a, b, digits, n, p, e, want, wantP)
		}
		if e := dec.CheckDiv(a, b, digits, n, p); e != api.OK {
			t.Fatalf("CheckDiv(%v, %v, %d, %v, %v): %v", a, b, digits, n, p, e)
		}
		for _, m := range []api.Num{a, b, zero, negated(n), num(n.Neg, n.Digits+"0", n.Exp-1), num(n.Neg, n.Digits, n.Exp-1)} {
			if dec.Check(m) == api.OK && m != n && dec.CheckDiv(a, b, digits, m, p) != api.ErrProof {
				t.Fatalf("CheckDiv(%v, %v, %d, %v, %v) accepts it", a, b, digits, m, p)
			}
		}
		for _, f := range forgeries(p, new(big.Int).Abs(y.n).String()) {
			if e := dec.CheckDiv(a, b, digits, n, f); e != api.ErrProof {
				t.Fatalf("CheckDiv(%v, %v, %d, %v, %v): %v", a, b, digits, n, f, e)
			}
		}
	})
}

// P1.6: IDiv and Rem on named numbers.
func TestIDivRem(t *testing.T) {
	for _, c := range []struct {
		a, b           api.Num
		digits         int
		quotient, rest api.Num
		eq, er         api.Errno
	}{
		{num(false, "7", 0), num(true, "2", 0), 9, num(true, "3", 0), num(false, "1", 0), api.OK, api.OK},
		{num(true, "7", 0), num(false, "2", 0), 9, num(true, "3", 0), num(true, "1", 0), api.OK, api.OK},
		{num(true, "7", 0), num(true, "2", 0), 9, num(false, "3", 0), num(true, "1", 0), api.OK, api.OK},
		{num(true, "1", 0), num(false, "2", 0), 9, zero, num(true, "1", 0), api.OK, api.OK},
		{num(false, "60", -1), num(false, "2", 0), 9, num(false, "3", 0), zero, api.OK, api.OK},
		{num(false, "1", 2), num(false, "1", 0), 9, num(false, "100", 0), zero, api.OK, api.OK},
		{num(false, "725", -2), num(false, "2", 0), 9, num(false, "3", 0), num(false, "125", -2), api.OK, api.OK},
		{num(false, "7", 0), num(false, "250", -2), 9, num(false, "2", 0), num(false, "200", -2), api.OK, api.OK},
		{zero, num(false, "3", 0), 9, zero, zero, api.OK, api.OK},
		{num(false, "1", -999), num(false, "1", 999), 9, zero, num(false, "1", -999), api.OK, api.OK},
		{num(false, "1", 8), num(false, "1", 0), 9, num(false, "100000000", 0), zero, api.OK, api.OK},
		{num(false, "1", 9), num(false, "1", 0), 9, api.Num{}, api.Num{}, api.ErrWhole, api.ErrWhole},
		{num(false, "1", 999), num(false, "1", -999), 40, api.Num{}, api.Num{}, api.ErrWhole, api.ErrWhole},
		{num(false, "1", 0), zero, 9, api.Num{}, api.Num{}, api.ErrZero, api.ErrZero},
		{zero, zero, 9, api.Num{}, api.Num{}, api.ErrZero, api.ErrZero},
		{num(false, "11", -1000), num(false, "10", -1000), 9, num(false, "1", 0), api.Num{}, api.OK, api.ErrRange},
		// Operands that rounding brings out of range: ErrZero and ErrWhole come first.
		{num(false, "995", 997), zero, 2, api.Num{}, api.Num{}, api.ErrZero, api.ErrZero},
		{num(false, "995", 997), num(false, "1", 0), 2, api.Num{}, api.Num{}, api.ErrWhole, api.ErrWhole},
		{num(false, "995", 997), num(false, "9", 999), 2, api.Num{}, api.Num{}, api.ErrRange, api.ErrRange},
		{num(false, "1", 0), num(false, "995", 997), 2, api.Num{}, api.Num{}, api.ErrRange, api.ErrRange},
	} {
		if n, e := dec.IDiv(c.a, c.b, c.digits); n != c.quotient || e != c.eq {
			t.Errorf("IDiv(%v, %v, %d): %v %v, want %v %v", c.a, c.b, c.digits, n, e, c.quotient, c.eq)
		}
		if n, e := dec.Rem(c.a, c.b, c.digits); n != c.rest || e != c.er {
			t.Errorf("Rem(%v, %v, %d): %v %v, want %v %v", c.a, c.b, c.digits, n, e, c.rest, c.er)
		}
	}
}

// P1.6: IDiv and Rem against the oracle.
func TestIDivRemRandom(t *testing.T) {
	whole := 0
	eachPair(t, 7, 15000, func(a, b api.Num, digits int) {
		x, y, ok := rounds(a, b, digits)
		var want, wantR api.Num
		var eq, er api.Errno
		i, j, exp := align(x, y)
		switch {
		case y.n.Sign() == 0:
			eq, er = api.ErrZero, api.ErrZero
		case len(new(big.Int).Abs(new(big.Int).Quo(i, j)).String()) > digits:
			eq, er = api.ErrWhole, api.ErrWhole
		case !ok:
			eq, er = api.ErrRange, api.ErrRange
		default:
			whole++
			q, r := new(big.Int).QuoRem(i, j, new(big.Int))
			want, eq = finish(exact{q, 0}, digits)
			wantR, er = finish(exact{r, exp}, digits)
		}
		if n, e := dec.IDiv(a, b, digits); n != want || e != eq {
			t.Fatalf("IDiv(%v, %v, %d): %v %v, want %v %v", a, b, digits, n, e, want, eq)
		}
		if n, e := dec.Rem(a, b, digits); n != wantR || e != er {
			t.Fatalf("Rem(%v, %v, %d): %v %v, want %v %v", a, b, digits, n, e, wantR, er)
		}
	})
	if whole < 5000 {
		t.Error("too few quotients:", whole)
	}
}

// P1.7: Pow on named numbers.
func TestPow(t *testing.T) {
	for _, c := range []struct {
		a         api.Num
		n, digits int
		want      api.Num
		e         api.Errno
	}{
		{num(false, "2", 0), 10, 9, num(false, "1024", 0), api.OK}, {num(false, "2", 0), -3, 9, num(false, "125", -3), api.OK}, {num(true, "2", 0), 3, 9, num(true, "8", 0), api.OK},
		{num(true, "2", 0), 2, 9, num(false, "4", 0), api.OK}, {num(true, "2", 0), -1, 9, num(true, "5", -1), api.OK}, {num(true, "2", 0), -2, 9, num(false, "25", -2), api.OK},
		{num(false, "10", -1), 3, 9, num(false, "1000", -3), api.OK}, {num(false, "10", 0), -2, 9, num(false, "1", -2), api.OK}, {num(false, "1", 2), -2, 9, num(false, "1", -4), api.OK},
		{num(false, "7", 3), 0, 9, num(false, "1", 0), api.OK}, {zero, 0, 9, num(false, "1", 0), api.OK}, {zero, 5, 9, zero, api.OK}, {zero, -1, 9, api.Num{}, api.ErrZero},
		{num(false, "3", 0), 100, 9, num(false, "515377521", 39), api.OK}, {num(false, "3", 0), -100, 9, num(false, "194032522", -56), api.OK},
		{num(false, "1", 9), 100, 9, num(false, "1", 900), api.OK}, {num(false, "1", 10), 100, 9, api.Num{}, api.ErrRange}, {num(false, "1", 10), -100, 9, api.Num{}, api.ErrRange},
		{num(false, "1", -10), 100, 9, api.Num{}, api.ErrRange}, {num(false, "1", -10), -100, 9, api.Num{}, api.ErrRange}, {num(false, "1", 999), 1, 9, num(false, "1", 999), api.OK},
		// The power itself is out of range, its inverse is not.
		{num(false, "11", -501), -2, 3, num(false, "826", 997), api.OK},
		{num(false, "995", 997), 0, 2, api.Num{}, api.ErrRange}, {num(false, "995", 997), 1, 2, api.Num{}, api.ErrRange}, {num(false, "995", 997), -1, 2, api.Num{}, api.ErrRange},
		{num(false, "1", 0), api.MaxPower, 9, num(false, "1", 0), api.OK}, {num(false, "1", 0), -api.MaxPower, 9, num(false, "1", 0), api.OK},
		{num(false, "1", 0), api.MaxPower + 1, 9, api.Num{}, api.ErrArg}, {num(false, "1", 0), -api.MaxPower - 1, 9, api.Num{}, api.ErrArg}, {zero, -api.MaxPower - 1, 9, api.Num{}, api.ErrArg},
		{num(false, "1", 0), -int(^uint(0)>>1) - 1, 9, api.Num{}, api.ErrArg},
		{num(false, "125", 0), 2, 2, num(false, "17", 3), api.OK}, // 13 to the power 2 is 169
	} {
		if n, e := dec.Pow(c.a, c.n, c.digits); n != c.want || e != c.e {
			t.Errorf("Pow(%v, %d, %d): %v %v, want %v %v", c.a, c.n, c.digits, n, e, c.want, c.e)
		}
	}
}

// P1.7: Pow against the oracle: the exact power is rounded once.
func TestPowRandom(t *testing.T) {
	r := rand.New(rand.NewSource(8))
	for range 3000 {
		a := randomNum(r, 12)
		n, digits := r.Intn(15)-7, randomDigits(r)
		if r.Intn(20) == 0 {
			n = r.Intn(201) - 100
		}
		if r.Intn(2) == 0 && a != zero {
			a.Exp = r.Intn(9) - 4 - len(a.Digits)
		}
		var want api.Num
		var wantE api.Errno
		x := oracleRound(exactOf(a), digits)
		switch {
		case x.n.Sign() == 0 && n < 0:
			wantE = api.ErrZero
		case outOfRange(x):
			wantE = api.ErrRange
		default:
			want, wantE = finish(oraclePower(x, n, digits), digits)
		}
		if got, e := dec.Pow(a, n, digits); got != want || e != wantE {
			t.Fatalf("Pow(%v, %d, %d): %v %v, want %v %v", a, n, digits, got, e, want, wantE)
		}
	}
}

// P1.8: Compare on named numbers.
func TestCompare(t *testing.T) {
	for _, c := range []struct {
		a, b         api.Num
		digits, fuzz int
		want         int
		e            api.Errno
	}{
		{num(false, "1", 0), num(false, "2", 0), 9, 0, -1, api.OK}, {num(false, "2", 0), num(false, "1", 0), 9, 0, 1, api.OK}, {num(false, "1", 0), num(false, "100", -2), 9, 0, 0, api.OK},
		{num(true, "1", 0), num(false, "1", 0), 9, 0, -1, api.OK}, {num(true, "1", 0), num(true, "2", 0), 9, 0, 1, api.OK}, {zero, zero, 9, 0, 0, api.OK}, {zero, num(false, "1", -999), 9, 0, -1, api.OK}, {zero, num(true, "1", -999), 9, 0, 1, api.OK},
		{num(false, "1234567", 0), num(false, "1234568", 0), 9, 3, 0, api.OK}, {num(false, "1234567", 0), num(false, "1234568", 0), 9, 2, -1, api.OK}, {num(false, "1234564", 0), num(false, "1234565", 0), 9, 3, -1, api.OK},
		{num(false, "1234567890", 0), num(false, "1234567891", 0), 9, 0, 0, api.OK}, {num(false, "1234567890", 0), num(false, "1234567891", 0), 10, 0, -1, api.OK},
		{num(true, "1", 0), num(false, "1", -900), 9, 0, -1, api.OK}, {num(false, "1", 999), num(true, "1", 999), 9, 0, 1, api.OK}, {num(false, "9", 999), num(true, "9", 999), 1, 0, 1, api.OK},
		{num(false, "11", -1000), num(false, "10", -1000), 9, 0, 1, api.OK}, // the difference is out of range
		{num(false, "995", 997), num(false, "1", 0), 9, 7, 0, api.ErrRange}, {num(false, "1", 0), num(false, "995", 997), 9, 7, 0, api.ErrRange}, {num(false, "995", 997), num(false, "1", 0), 9, 6, 1, api.OK},
	} {
		s := api.Settings{Digits: c.digits, Fuzz: c.fuzz}
		if n, e := dec.Compare(c.a, c.b, s); n != c.want || e != c.e {
			t.Errorf("Compare(%v, %v, %v): %d %v, want %d %v", c.a, c.b, s, n, e, c.want, c.e)
		}
	}
}

// P1.8, P1.15: Compare against the oracle; it is antisymmetric, and 0 for equal values.
func TestCompareRandom(t *testing.T) {
	r := rand.New(rand.NewSource(9))
	eachPair(t, 10, 20000, func(a, b api.Num, digits int) {
		if r.Intn(2) == 0 && a != zero { // near a
			b = num(a.Neg, a.Digits[:len(a.Digits)-1]+string(draw(r)), a.Exp)
			if dec.Check(b) != api.OK {
				return
			}
		}
		s := api.Settings{Digits: digits, Fuzz: r.Intn(digits), Form: r.Intn(2)}
		x, y, ok := rounds(a, b, s.Digits-s.Fuzz)
		i, j, _ := align(x, y)
		want, wantE := i.Cmp(j), api.OK
		if !ok {
			want, wantE = 0, api.ErrRange
		}
		if n, e := dec.Compare(a, b, s); n != want || e != wantE {
			t.Fatalf("Compare(%v, %v, %v): %d %v, want %d %v", a, b, s, n, e, want, wantE)
		}
		if n, e := dec.Compare(b, a, s); n != -want || e != wantE {
			t.Fatalf("Compare(%v, %v, %v) is not antisymmetric: %d %v", b, a, s, n, e)
		}
		longer := num(a.Neg, a.Digits+"00", a.Exp-2)
		if n, e := dec.Compare(a, longer, s); a != zero && ok && (n != 0 || e != api.OK) {
			t.Fatalf("Compare(%v, %v, %v): %d %v", a, longer, s, n, e)
		}
	})
}

// P1.8: Int.
func TestInt(t *testing.T) {
	for _, c := range []struct {
		n      api.Num
		digits int
		want   int
		e      api.Errno
	}{
		{zero, 1, 0, api.OK}, {num(true, "120", -1), 9, -12, api.OK}, {num(false, "120", -1), 2, 12, api.OK}, {num(false, "120", -1), 1, 0, api.ErrWhole}, {num(false, "30", -1), 1, 3, api.OK},
		{num(false, "125", -1), 9, 0, api.ErrWhole}, {num(false, "5", -1), 9, 0, api.ErrWhole}, {num(false, "1", -999), 40, 0, api.ErrWhole}, {num(false, "12", 3), 5, 12000, api.OK}, {num(false, "12", 3), 4, 0, api.ErrWhole},
		{num(false, "100", 0), 2, 0, api.ErrWhole}, {num(false, "100", 0), 3, 100, api.OK}, {num(false, "999999999", 0), 9, 999999999, api.OK}, {num(true, "999999999", 0), 40, -999999999, api.OK},
		{num(false, "1", 9), 9, 0, api.ErrWhole}, {num(false, "1", 9), 10, 0, api.ErrRange}, {num(true, "1000000000", 0), 40, 0, api.ErrRange}, {num(false, "9999999995", -1), 40, 0, api.ErrWhole}, {num(false, "1", 39), 40, 0, api.ErrRange},
		{num(false, "1", 40), 40, 0, api.ErrWhole}, {num(false, "1", 999), 40, 0, api.ErrWhole}, {num(false, "1"+strings.Repeat("0", 999), -999), 1, 1, api.OK}, {num(false, "1"+strings.Repeat("0", 998)+"1", -999), 40, 0, api.ErrWhole},
	} {
		if n, e := dec.Int(c.n, c.digits); n != c.want || e != c.e {
			t.Errorf("Int(%.40v, %d): %d %v, want %d %v", c.n, c.digits, n, e, c.want, c.e)
		}
	}
	eachPair(t, 11, 20000, func(a, b api.Num, digits int) {
		want, wantE := 0, api.OK
		switch r := ratOf(a); {
		case !r.IsInt() || len(new(big.Int).Abs(r.Num()).String()) > digits:
			wantE = api.ErrWhole
		case new(big.Int).Abs(r.Num()).Cmp(big.NewInt(999999999)) > 0:
			wantE = api.ErrRange
		default:
			want = int(r.Num().Int64())
		}
		if n, e := dec.Int(a, digits); n != want || e != wantE {
			t.Fatalf("Int(%v, %d): %d %v, want %d %v", a, digits, n, e, want, wantE)
		}
	})
}
