package dec_test

import (
	"math/rand"
	"testing"

	"qanat/api"
	"qanat/dec"
)

// The consequences P1.12 to P1.15.

// must returns the result of a call that must succeed.
func must(t *testing.T, n api.Num, e api.Errno) api.Num {
	t.Helper()
	if e != api.OK {
		t.Fatalf("error %v", e)
	}
	return n
}

// same reports whether two numbers have the same value.
func same(a, b api.Num) bool { return ratOf(a).Cmp(ratOf(b)) == 0 }

// shortNum returns a number of few digits, so that 40 digits are enough for products of some of them.
func shortNum(r *rand.Rand) api.Num {
	n := randomNum(r, 6)
	if n != zero {
		n.Exp = r.Intn(7) - 3
	}
	return n
}

// P1.12: Add and Mul are commutative, Sub(a, b) is Add(a, -b), Add(a, 0) and Mul(a, 1) have the value of a rounded.
func TestAlgebra(t *testing.T) {
	eachPair(t, 13, 10000, func(a, b api.Num, digits int) {
		n, e := dec.Add(a, b, digits)
		if m, f := dec.Add(b, a, digits); n != m || e != f {
			t.Fatalf("Add(%v, %v, %d): %v %v, %v %v", a, b, digits, n, e, m, f)
		}
		n, e = dec.Mul(a, b, digits)
		if m, f := dec.Mul(b, a, digits); n != m || e != f {
			t.Fatalf("Mul(%v, %v, %d): %v %v, %v %v", a, b, digits, n, e, m, f)
		}
		n, e = dec.Sub(a, b, digits)
		if m, f := dec.Add(a, negated(b), digits); n != m || e != f {
			t.Fatalf("Sub(%v, %v, %d): %v %v, %v %v", a, b, digits, n, e, m, f)
		}
		rounded, e := dec.Round(a, digits)
		if m, f := dec.Add(a, zero, digits); m != rounded || e != f {
			t.Fatalf("Add(%v, 0, %d): %v %v, want %v %v", a, digits, m, f, rounded, e)
		}
		if m, f := dec.Mul(a, num(false, "1", 0), digits); e != f || e == api.OK && !same(m, rounded) {
			t.Fatalf("Mul(%v, 1, %d): %v %v, want %v %v", a, digits, m, f, rounded, e)
		}
	})
}

// P1.12: with enough digits Add and Mul are associative, and Mul distributes over Add.
func TestAssociative(t *testing.T) {
	r := rand.New(rand.NewSource(14))
	add := func(a, b api.Num) api.Num { n, e := dec.Add(a, b, 40); return must(t, n, e) }
	mul := func(a, b api.Num) api.Num { n, e := dec.Mul(a, b, 40); return must(t, n, e) }
	for range 10000 {
		a, b, c := shortNum(r), shortNum(r), shortNum(r)
		if !same(add(add(a, b), c), add(a, add(b, c))) {
			t.Fatal("Add is not associative:", a, b, c)
		}
		if !same(mul(mul(a, b), c), mul(a, mul(b, c))) {
			t.Fatal("Mul is not associative:", a, b, c)
		}
		if !same(mul(a, add(b, c)), add(mul(a, b), mul(a, c))) {
			t.Fatal("Mul does not distribute over Add:", a, b, c)
		}
	}
}

// P1.13: b * q + r = a, |r| < |b|, r is zero or has the sign of a; Div(Mul(a, b), b) has the value of a.
func TestDivision(t *testing.T) {
	r := rand.New(rand.NewSource(15))
	for range 10000 {
		a, b := shortNum(r), shortNum(r)
		if b == zero {
			continue
		}
		q, e := dec.IDiv(a, b, 40)
		must(t, q, e)
		rest, e := dec.Rem(a, b, 40)
		must(t, rest, e)
		product, e := dec.Mul(b, q, 40)
		must(t, product, e)
		if sum, e := dec.Add(product, rest, 40); e != api.OK || !same(sum, a) {
			t.Fatal("b * q + r is not a:", a, b, q, rest, sum, e)
		}
		x, y := ratOf(rest), ratOf(b)
		if x.Abs(x).Cmp(y.Abs(y)) >= 0 || rest != zero && rest.Neg != a.Neg {
			t.Fatal("the remainder is wrong:", a, b, rest)
		}
		product, e = dec.Mul(a, b, 40)
		must(t, product, e)
		if n, _, e := dec.Div(product, b, 40); e != api.OK || !same(n, a) {
			t.Fatal("Div(Mul(a, b), b) is not a:", a, b, n, e)
		}
	}
}

// P1.14: Pow(a, 2) equals Mul(a, a); exact powers satisfy a^(m+n) = a^m * a^n.
func TestPowers(t *testing.T) {
	eachPair(t, 16, 10000, func(a, _ api.Num, digits int) {
		n, e := dec.Pow(a, 2, digits)
		if m, f := dec.Mul(a, a, digits); n != m || e != f {
			t.Fatalf("Pow(%v, 2, %d): %v %v, want %v %v", a, digits, n, e, m, f)
		}
	})
	r := rand.New(rand.NewSource(17))
	for range 3000 {
		a, m, n := shortNum(r), r.Intn(4), r.Intn(3) // at most 6 * 5 digits
		x, e := dec.Pow(a, m, 40)
		must(t, x, e)
		y, e := dec.Pow(a, n, 40)
		must(t, y, e)
		z, e := dec.Pow(a, m+n, 40)
		must(t, z, e)
		if product, e := dec.Mul(x, y, 40); e != api.OK || !same(product, z) {
			t.Fatal("powers:", a, m, n, x, y, z, product, e)
		}
	}
}

// P1.15: Compare is transitive for FUZZ 0, and returns 0 for equal values, however they are written.
func TestOrder(t *testing.T) {
	r := rand.New(rand.NewSource(18))
	near := func() api.Num {
		n := api.Num{Neg: r.Intn(2) == 0, Digits: string(rune('1' + r.Intn(9))), Exp: r.Intn(3) - 1}
		for range r.Intn(3) {
			n.Digits += string(rune('0' + r.Intn(10)))
			n.Exp--
		}
		return n
	}
	for range 30000 {
		list := []api.Num{near(), near(), near()}
		s := api.Settings{Digits: 1 + r.Intn(4)}
		sign := func(i, j int) int {
			n, e := dec.Compare(list[i], list[j], s)
			if e != api.OK {
				t.Fatal(list, s, e)
			}
			return n
		}
		if sign(0, 1) != -sign(1, 0) || sign(0, 0) != 0 {
			t.Fatal("Compare is not antisymmetric:", list, s)
		}
		if sign(0, 1) <= 0 && sign(1, 2) <= 0 && (sign(0, 2) > 0 || sign(0, 2) == 0 && sign(0, 1)+sign(1, 2) != 0) {
			t.Fatal("Compare is not transitive:", list, s)
		}
	}
	for _, texts := range [][]string{{"1", "1.0", "1.00", "0.1E1", "10E-1", " +1 ", "01", "1."}, {"0", "-0", "0.00", "0E99", ".0"}, {"-1200", "-1.2E3", "-12E+2", "-1200.000"}} {
		for _, a := range texts {
			for _, b := range texts {
				x, e := dec.Read(a)
				y, f := dec.Read(b)
				if n, g := dec.Compare(x, y, nine); n != 0 || e != api.OK || f != api.OK || g != api.OK {
					t.Errorf("Compare(%q, %q): %d %v %v %v", a, b, n, e, f, g)
				}
			}
		}
	}
}
