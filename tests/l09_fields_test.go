package tests

import (
	"math"
	"slices"
	"testing"

	"loop.example/g01342/impl"
)

const (
	billion  = 1000000000
	trillion = 1000000000000
)

// fieldForms are irreducible forms with discriminants of both signs, squares among them, with contents
// greater than 1, first numbers of 1, -1 and less than 0, and the numbers of greatest absolute values.
func fieldForms() []impl.Form {
	all := []impl.Form{
		{1, 0, -1, 1}, {1, 1, -2, -1}, {1, 0, -3, -1}, {1, 0, -3, 1}, {-1, 1, 2, -1}, {1, 0, 0, 2}, {-1, 0, 0, 3}, {2, 0, 0, 3},
		{2, 0, -2, 2}, {-3, 0, 9, 3}, {-1, -1, 0, -2}, {-5, 4, 3, 2}, {7, 0, -14, 21}, {1, 2, 1, 3}, {9, 9, 0, 1}, {8, 4, -2, 1},
		{1, -9, 6, 1}, {1, 1, -4, 1}, {1, 6, 5, -1}, {-2, 3, 5, -7}, {6, 0, 10, 15}, {97, 1, 0, 1}, {1, 0, 97, 97}, {2, 101, 0, 202},
		{1, 0, 0, 707}, {131, 262, 0, 3},
		{1000, 1000, 1000, 999}, {-1000, 999, -1000, 997}, {997, 0, 0, -991}, {1000, 0, -1000, 500}, {2, 4, 6, -1000},
	}
	for i, f := range scatteredForms(200) {
		if i%2 == 0 && isIrreducibleByHand(f) {
			all = append(all, f)
		}
	}
	return all
}

// resolventByHand tries all F from the greatest one on.
func resolventByHand(n int64) (int64, int64) {
	for root := int64(math.Sqrt(math.Abs(float64(n)))) + 1; root > 1; root-- {
		if n%(root*root) == 0 && restByHand(n/(root*root), 4) < 2 {
			return n / (root * root), root
		}
	}
	return n, 1
}

// characterByHand looks for a square with the rest of d, at a prime number.
func characterByHand(d, q int64) int64 {
	if d%q == 0 {
		return 0
	}
	if q == 2 {
		return map[int64]int64{1: 1, 5: -1}[restByHand(d, 8)]
	}
	rest := restByHand(d, q)
	for x := int64(1); x < q; x++ {
		if x*x%q == rest {
			return 1
		}
	}
	return -1
}

// characterProductByHand is the character of d at n, from those at prime numbers.
func characterProductByHand(d, n int64) int64 {
	product := int64(1)
	for q := int64(2); n > 1; q++ {
		for ; n%q == 0; n /= q {
			product *= characterByHand(d, q)
		}
	}
	return product
}

func isPrimeByHand(n int64) bool {
	for q := int64(2); q < n; q++ {
		if n%q == 0 {
			return false
		}
	}
	return n > 1
}

// kindAtAnyPrime tells the kind from the number of different roots, and from whether there are repeated
// ones, as the discriminant tells.
func kindAtAnyPrime(f impl.Form, q int64) int64 {
	roots := 0
	for _, at := range pointsByHand(q) {
		if valueByHand(f, at[0], at[1])%q == 0 {
			roots++
		}
	}
	switch {
	case areSameModulo(f, impl.Form{}, q):
		return impl.Kind0
	case discriminantByHand(f)%q == 0:
		return map[int]int64{2: impl.KindSquare, 1: impl.KindCube}[roots]
	}
	return map[int]int64{3: impl.Kind111, 1: impl.Kind12, 0: impl.Kind3}[roots]
}

// partsOfKind are the numbers m of the series 1 + t^m + t^2m + .. whose product the chapter tells.
var partsOfKind = map[int64][]int{
	impl.Kind111: {1, 1, 1}, impl.Kind12: {1, 2}, impl.Kind3: {3}, impl.KindSquare: {1, 1}, impl.KindCube: {1},
}

// idealsByHand starts with a(1) = 1 alone and multiplies by one series after the other.
func idealsByHand(f impl.Form, n int64) []int64 {
	numbers := make([]int64, n)
	numbers[0] = 1
	for q := int64(2); q <= n; q++ {
		if !isPrimeByHand(q) {
			continue
		}
		for _, part := range partsOfKind[kindAtAnyPrime(f, q)] {
			power := int64(1)
			for range part {
				power = min(power*q, n+1)
			}
			for k := power; k <= n; k += power {
				numbers[k-1] += numbers[k/power-1]
			}
		}
	}
	return numbers
}

func sumByHand(numbers []int64) int64 {
	var sum int64
	for _, n := range numbers {
		sum += n
	}
	return sum
}

// idealsTold are a(1) to a(n) as the program tells them.
func idealsTold(t *testing.T, f impl.Form, n int64) []int64 {
	t.Helper()
	numbers, code := impl.IdealNumbers(f, n)
	if code != impl.ErrNone || int64(len(numbers)) != n {
		t.Fatalf("IdealNumbers(%v, %d) = %v, %d", f, n, numbers, code)
	}
	return numbers
}

func wantSignature(t *testing.T, f impl.Form, real, pairs, wantCode int64) {
	t.Helper()
	first, second, code := impl.SignatureOf(f)
	if first != real || second != pairs || code != wantCode {
		t.Errorf("SignatureOf(%v) = %d, %d, %d, want %d, %d, %d", f, first, second, code, real, pairs, wantCode)
	}
}

func wantResolvent(t *testing.T, n, wantD, wantF, wantCode int64) {
	t.Helper()
	d, root, code := impl.ResolventOf(n)
	if d != wantD || root != wantF || code != wantCode {
		t.Errorf("ResolventOf(%d) = %d, %d, %d, want %d, %d, %d", n, d, root, code, wantD, wantF, wantCode)
	}
}

func wantCharacter(t *testing.T, d, n, want, wantCode int64) {
	t.Helper()
	character, code := impl.CharacterAt(d, n)
	if character != want || code != wantCode {
		t.Errorf("CharacterAt(%d, %d) = %d, %d, want %d, %d", d, n, character, code, want, wantCode)
	}
}

func wantIdeals(t *testing.T, f impl.Form, n int64, want []int64, wantCode int64) {
	t.Helper()
	numbers, code := impl.IdealNumbers(f, n)
	if !slices.Equal(numbers, want) || code != wantCode {
		t.Errorf("IdealNumbers(%v, %d) = %v, %d, want %v, %d", f, n, numbers, code, want, wantCode)
	}
	sum, code := impl.SumOfIdeals(f, n)
	wantNumber(t, "SumOfIdeals", sum, code, sumByHand(want), wantCode)
}

func TestMaxIdeals(t *testing.T) {
	if impl.MaxIdeals != 500 {
		t.Errorf("MaxIdeals is %d", impl.MaxIdeals)
	}
}

func TestFieldsOfForms(t *testing.T) {
	cases := []struct {
		f                  impl.Form
		real, pairs, order int64
		isPure             bool
	}{
		{impl.Form{1, 0, -1, 1}, 1, 1, 6, false},
		{impl.Form{-1, -1, -2, -1}, 1, 1, 6, false},
		{impl.Form{1, 1, -2, -1}, 3, 0, 3, false},
		{impl.Form{-1, 2, 1, -1}, 3, 0, 3, false},
		{impl.Form{1, 0, -3, 1}, 3, 0, 3, false},
		{impl.Form{1, 0, -4, 2}, 3, 0, 6, false},
		{impl.Form{1, 0, -4, -1}, 3, 0, 6, false},
		// Third roots, in their own forms and in others.
		{impl.Form{1, 0, 0, 2}, 1, 1, 6, true},
		{impl.Form{-2, 0, 0, 3}, 1, 1, 6, true},
		{impl.Form{1, 3, 3, 3}, 1, 1, 6, true},
		{impl.Form{1000, 0, 0, -999}, 1, 1, 6, true},
		{impl.Form{997, 0, 0, -991}, 1, 1, 6, true},
		{impl.Form{-1000, 0, 0, 500}, 1, 1, 6, true},
		// The negative discriminant is a square.
		{impl.Form{1, -3, 0, -2}, 1, 1, 6, false},
		{impl.Form{2, -1, -2, 3}, 1, 1, 6, false},
		// Contents greater than 1.
		{impl.Form{2, 0, -2, 2}, 1, 1, 6, false},
		{impl.Form{500, 500, -1000, -500}, 3, 0, 3, false},
		{impl.Form{-3, 0, 0, -6}, 1, 1, 6, true},
		// The numbers of greatest absolute values.
		{impl.Form{1000, 1000, 1000, 999}, 1, 1, 6, false},
		{impl.Form{999, 1000, -1000, -998}, 3, 0, 6, false},
		{impl.Form{-1000, 0, 1000, -1}, 3, 0, 6, false},
	}
	for _, c := range cases {
		wantSignature(t, c.f, c.real, c.pairs, impl.ErrNone)
		order, code := impl.GroupOrder(c.f)
		wantNumber(t, "GroupOrder", order, code, c.order, impl.ErrNone)
		is, code := impl.IsPure(c.f)
		wantBool(t, "IsPure", is, code, c.isPure, impl.ErrNone)
	}
}

// TestFieldsOfTables goes by the discriminants alone, also for forms changed and for multiples, which
// have the same fields.
func TestFieldsOfTables(t *testing.T) {
	var counts [4]int
	for _, f := range append(tableTold(t, 3), fieldForms()...) {
		d := discriminantByHand(f)
		real, pairs, order, isPure := int64(1), int64(1), int64(6), isSquareByHand(-3*d)
		if d > 0 {
			real, pairs = 3, 0
		}
		if isSquareByHand(d) {
			order = 3
		}
		for i, holds := range []bool{d > 0, d < 0, order == 3, isPure} {
			if holds {
				counts[i]++
			}
		}
		forms := []impl.Form{f, timesForm(-1, f)}
		for _, m := range []impl.Matrix{{0, 1, 1, 0}, {2, 1, 1, 1}, {2, 0, 0, 1}, {1, -3, 0, 3}, {3, 0, 0, 3}} {
			if g, code := impl.ChangeForm(f, m); code == impl.ErrNone {
				forms = append(forms, g)
			}
		}
		for _, g := range forms {
			wantSignature(t, g, real, pairs, impl.ErrNone)
			got, code := impl.GroupOrder(g)
			wantNumber(t, "GroupOrder", got, code, order, impl.ErrNone)
			is, code := impl.IsPure(g)
			wantBool(t, "IsPure", is, code, isPure, impl.ErrNone)
		}
	}
	if slices.Min(counts[:]) < 5 {
		t.Errorf("positive and negative discriminants, small groups, and third roots: %v", counts)
	}
}

func TestLeadingForm(t *testing.T) {
	cases := []struct {
		f, want impl.Form
		code    int64
	}{
		{impl.Form{2, 1, 3, 5}, impl.Form{1, 1, 6, 20}, impl.ErrNone},
		{impl.Form{1, 0, -1, 1}, impl.Form{1, 0, -1, 1}, impl.ErrNone},
		{impl.Form{-1, -1, -2, -1}, impl.Form{1, -1, 2, -1}, impl.ErrNone},
		{impl.Form{-1, 5, 7, 3}, impl.Form{1, 5, -7, 3}, impl.ErrNone},
		{impl.Form{-3, 2, 5, -7}, impl.Form{1, 2, -15, -63}, impl.ErrNone},
		{impl.Form{2, 0, -2, 2}, impl.Form{1, 0, -4, 8}, impl.ErrNone},
		// At the limit, and beyond it.
		{impl.Form{10, 0, 0, 7}, impl.Form{1, 0, 0, 700}, impl.ErrNone},
		{impl.Form{2, 1, 1, 250}, impl.Form{1, 1, 2, 1000}, impl.ErrNone},
		{impl.Form{2, 1, 1, -250}, impl.Form{1, 1, 2, -1000}, impl.ErrNone},
		{impl.Form{2, 1, 1, 251}, impl.Form{}, impl.ErrLimit},
		{impl.Form{2, 1, 1, -251}, impl.Form{}, impl.ErrLimit},
		{impl.Form{2, 1, 500, 1}, impl.Form{1, 1, 1000, 4}, impl.ErrNone},
		{impl.Form{-2, 1, 500, 1}, impl.Form{1, 1, -1000, 4}, impl.ErrNone},
		{impl.Form{2, 1, 501, 1}, impl.Form{}, impl.ErrLimit},
		{impl.Form{-2, 1, 501, 1}, impl.Form{}, impl.ErrLimit},
		{impl.Form{-31, 0, 1, 1}, impl.Form{1, 0, -31, 961}, impl.ErrNone},
		{impl.Form{32, 0, 1, 1}, impl.Form{}, impl.ErrLimit},
		{impl.Form{-32, 0, 1, 1}, impl.Form{}, impl.ErrLimit},
		{impl.Form{1000, 1000, 1000, 999}, impl.Form{}, impl.ErrLimit},
		{impl.Form{-1000, 999, -1000, 997}, impl.Form{}, impl.ErrLimit},
		{impl.Form{-1, 1000, -999, 1000}, impl.Form{1, 1000, 999, 1000}, impl.ErrNone},
		{impl.Form{1, -1000, 1000, -1000}, impl.Form{1, -1000, 1000, -1000}, impl.ErrNone},
	}
	for _, c := range cases {
		f, code := impl.LeadingForm(c.f)
		wantForm(t, "LeadingForm", f, code, c.want, c.code)
	}
}

// TestLeadingFormsHaveTheSameField: the discriminant is D a a, the values are those of a a f, and the
// field has the same signature and group.
func TestLeadingFormsHaveTheSameField(t *testing.T) {
	var counts [2]int
	for _, f := range append(tableTold(t, 3), fieldForms()...) {
		leading, code := impl.LeadingForm(f)
		far := slices.ContainsFunc([]int64{f[0] * f[2], f[0] * f[0] * f[3]}, func(n int64) bool { return max(n, -n) > 1000 })
		if far {
			wantForm(t, "LeadingForm", leading, code, impl.Form{}, impl.ErrLimit)
			counts[1]++
			continue
		}
		counts[0]++
		if code != impl.ErrNone || leading[0] != 1 || discriminantByHand(leading) != discriminantByHand(f)*f[0]*f[0] {
			t.Errorf("LeadingForm(%v) = %v, %d", f, leading, code)
		}
		for _, at := range boxByHand(3) {
			if value := valueByHand(leading, f[0]*at[0], at[1]); value != f[0]*f[0]*valueByHand(f, at[0], at[1]) {
				t.Errorf("the leading form %v of %v has the value %d at %v", leading, f, value, at)
			}
		}
		real, pairs, _ := impl.SignatureOf(f)
		wantSignature(t, leading, real, pairs, impl.ErrNone)
		want, _ := impl.GroupOrder(f)
		order, code := impl.GroupOrder(leading)
		wantNumber(t, "GroupOrder of the leading form", order, code, want, impl.ErrNone)
	}
	if slices.Min(counts[:]) < 50 {
		t.Errorf("leading forms within the limit and beyond: %v", counts)
	}
}

func TestResolventOf(t *testing.T) {
	for _, c := range [][3]int64{
		{-44, -11, 2}, {49, 1, 7}, {-23, -23, 1}, {-108, -3, 6}, {12, 12, 1}, {-4, -4, 1}, {48, 12, 2}, {1, 1, 1}, {16, 1, 4},
		{4, 1, 2}, {5, 5, 1}, {8, 8, 1}, {-3, -3, 1}, {-7, -7, 1}, {-8, -8, 1}, {-12, -3, 2}, {-16, -4, 2}, {32, 8, 2}, {-32, -8, 2},
		{-64, -4, 4}, {64, 1, 8}, {20, 5, 2}, {-20, -20, 1}, {-28, -7, 2}, {28, 28, 1}, {9, 1, 3}, {-27, -3, 3}, {36, 1, 6}, {-36, -4, 3},
		{45, 5, 3}, {-75, -3, 5}, {72, 8, 3}, {-972, -3, 18}, {1125, 5, 15}, {81, 1, 9}, {108, 12, 3},
		// Greater numbers: squares, third powers, and squares times lesser and greater prime numbers.
		{trillion, 1, 1000000}, {-trillion, -4, 500000}, {999983 * 999983, 1, 999983}, {999983 * 999979, 999983 * 999979, 1},
		{97 * 99991 * 99991, 97, 99991}, {-9973 * 9973 * 10007, -10007, 9973}, {9973 * 9973 * 9973, 9973, 9973},
		{-9967 * 9967 * 9967, -9967, 9967}, {-4 * 499979 * 499979, -4, 499979}, {4 * 499979 * 499979, 1, 2 * 499979},
		{-3 * 577337 * 577337, -3, 577337}, {549755813888, 8, 262144}, {-549755813888, -8, 262144}, {-847288609443, -3, 531441},
		{999999999989, 999999999989, 1}, {1 - trillion, -111111111111, 3}, {trillion - 3, trillion - 3, 1},
		{trillion - 4, 62000124, 127}, {4 - trillion, -15500031, 254}, {5 - trillion, 5 - trillion, 1},
	} {
		wantResolvent(t, c[0], c[1], c[2], impl.ErrNone)
	}
}

// TestResolventsLeadBack is the second part of the promise 9: d F F is the number, d has the rest 0 or 1
// by 4, and no greater F can be moved from it.
func TestResolventsLeadBack(t *testing.T) {
	wantLedBack := func(n int64) {
		t.Helper()
		d, root := resolventByHand(n)
		if d*root*root != n || restByHand(d, 4) > 1 {
			t.Fatalf("the resolvent of %d by hand is %d, %d", n, d, root)
		}
		wantResolvent(t, n, d, root, impl.ErrNone)
		wantResolvent(t, d, d, 1, impl.ErrNone)
	}
	for n := int64(-5000); n <= 5000; n++ {
		if rest := restByHand(n, 4); n != 0 && rest < 2 {
			wantLedBack(n)
		} else {
			wantResolvent(t, n, 0, 0, impl.ErrRange)
		}
	}
	for _, f := range fieldForms() {
		if d := discriminantByHand(f); d >= -trillion && d <= trillion {
			wantLedBack(d)
		}
	}
	for k := int64(1); k <= 300; k++ {
		for _, d := range []int64{-23, -4, -3, 1, 5, 8, 12, 21, -20} {
			wantResolvent(t, d*k*k, d, k, impl.ErrNone)
		}
	}
}

// TestNumbersWithoutResolvents: 0, the rests 2 and 3, also of numbers less than 0, and numbers beyond the
// limit with the rests 0 and 1.
func TestNumbersWithoutResolvents(t *testing.T) {
	for _, n := range append(outside(trillion),
		0, 2, 3, 6, 7, 10, 11, -1, -2, -5, -6, -9, -10, -21, -22, -25, trillion+4, -trillion-4, -trillion-3, trillion-1,
		trillion-2, -trillion+2, -trillion+3, math.MaxInt64-2, math.MinInt64+4, math.MinInt64+5) {
		wantResolvent(t, n, 0, 0, impl.ErrRange)
	}
}

func TestCharacterAt(t *testing.T) {
	for _, c := range [][3]int64{
		{-23, 2, 1}, {-23, 5, -1}, {-23, 23, 0}, {5, 2, -1}, {-4, 3, -1}, {-4, 15, -1}, {-3, 7, 1}, {-23, 1, 1}, {-23, 10, -1},
		// At 1 all characters are 1, also those of 0, which is a multiple of all prime numbers.
		{0, 1, 1}, {1, 1, 1}, {-4, 1, 1}, {billion, 1, 1}, {0, 2, 0}, {0, 3, 0}, {0, 97, 0}, {0, million, 0}, {0, 999983, 0},
		{1, 2, 1}, {1, 3, 1}, {1, million, 1}, {4, 3, 1}, {4, 2, 0}, {9, 3, 0}, {9, 5, 1}, {9, 2, 1},
		// At 2: the rests 1 and 5 by 8, for numbers less than 0 counted from below, and 0 and 4.
		{17, 2, 1}, {-7, 2, 1}, {-15, 2, 1}, {13, 2, -1}, {-3, 2, -1}, {-11, 2, -1}, {8, 2, 0}, {12, 2, 0}, {-8, 2, 0}, {-20, 2, 0},
		// At powers: each as often as it is there.
		{5, 4, 1}, {5, 8, -1}, {5, 16, 1}, {5, 25, 0}, {-4, 9, 1}, {-4, 27, -1}, {-4, 45, 1}, {-4, 21, 1}, {-3, 8, -1}, {-3, 524288, -1},
		// The greatest numbers.
		{billion, 2, 0}, {-billion, 5, 0}, {billion, 3, 1}, {-billion, 3, -1}, {billion - 3, 7, -1}, {1 - billion, 7, 1}, {billion, 999983, -1},
		{billion, million, 0}, {-3, 999979, 1}, {-3, 999983, -1}, {-4, 999979, -1}, {-4, 999983, -1}, {-4, 999961, 1},
	} {
		wantCharacter(t, c[0], c[1], c[2], impl.ErrNone)
	}
}

// TestCharactersByHand looks for squares by hand, at all lesser numbers, at prime numbers beyond MaxPrime,
// and at the greatest n.
func TestCharactersByHand(t *testing.T) {
	var counts [3]int
	wantSame := func(d, n int64) {
		t.Helper()
		want := characterProductByHand(d, n)
		wantCharacter(t, d, n, want, impl.ErrNone)
		counts[want+1]++
	}
	for d := int64(-150); d <= 150; d++ {
		if restByHand(d, 4) > 1 {
			continue
		}
		for n := int64(1); n <= 150; n++ {
			wantSame(d, n)
		}
		for _, n := range []int64{343, 499, 512, 720, 997, 1000, 1001, 7919, 10007, 99991, 510510, 531441} {
			wantSame(d, n)
		}
	}
	for _, d := range []int64{billion, billion - 3, billion - 4, 999950884, -billion, 4 - billion, 1 - billion, -999950887, 5 * 100000} {
		for _, n := range []int64{1, 2, 3, 5, 7, 11, 25, 49, 97, 101, 31607, 65536, 999979, 999983, 999999, million} {
			wantSame(d, n)
		}
	}
	if slices.Min(counts[:]) < 1000 {
		t.Errorf("characters -1, 0 and 1: %v", counts)
	}
}

// TestCharactersAreProducts is the first part of the guarantee. Characters also go with the rest of n by
// d, and with the product of two d.
func TestCharactersAreProducts(t *testing.T) {
	character := func(d, n int64) int64 {
		t.Helper()
		c, code := impl.CharacterAt(d, n)
		if c < -1 || c > 1 || code != impl.ErrNone {
			t.Fatalf("CharacterAt(%d, %d) = %d, %d", d, n, c, code)
		}
		return c
	}
	list := []int64{-23, -4, -3, 5, 8, 12, 1, -7, -8, 13, 16, -12, 21, 45, -15, -20, 28, -999999995, 999999697}
	for i, d := range list {
		for m := int64(1); m <= 60; m++ {
			for _, n := range []int64{1, 2, 3, 4, 5, 6, 9, 12, 23, 35, 101, 1000, 8191, 16666} {
				wantCharacter(t, d, m*n, character(d, m)*character(d, n), impl.ErrNone)
			}
			wantCharacter(t, list[(i+1)%6]*list[(i+3)%6], m, character(list[(i+1)%6], m)*character(list[(i+3)%6], m), impl.ErrNone)
			if d > -100 && d < 100 {
				wantCharacter(t, d, m+max(d, -d), character(d, m), impl.ErrNone)
				wantCharacter(t, d, m+1000*max(d, -d), character(d, m), impl.ErrNone)
			}
		}
	}
}

func TestNoCharacters(t *testing.T) {
	for _, d := range append(outside(billion), 2, 3, 6, 7, -1, -2, -5, -6, billion-1, billion-2, 2-billion, 3-billion, billion+4, -billion-3,
		-billion-4, trillion, -trillion) {
		for _, n := range []int64{1, 2, 3, 5, 10, million, 0, -1, million + 1} {
			wantCharacter(t, d, n, 0, impl.ErrRange)
		}
	}
	for _, n := range append(outside(million), 0, -1, -2, -million, million+3, 1000003) {
		for _, d := range []int64{0, 1, 5, -23, -4, billion, -billion, 2} {
			wantCharacter(t, d, n, 0, impl.ErrRange)
		}
	}
}

func TestIdealNumbers(t *testing.T) {
	f := impl.Form{1, 0, -1, 1}
	wantIdeals(t, f, 1, []int64{1}, impl.ErrNone)
	wantIdeals(t, f, 10, []int64{1, 0, 0, 0, 1, 0, 1, 1, 0, 0}, impl.ErrNone)
	wantIdeals(t, f, 25, []int64{1, 0, 0, 0, 1, 0, 1, 1, 0, 0, 1, 0, 0, 0, 0, 0, 1, 0, 1, 0, 0, 0, 2, 0, 2}, impl.ErrNone)
	// A first number other than 1, and one that is no maximal form.
	wantIdeals(t, impl.Form{2, 0, 0, 3}, 10, []int64{1, 1, 1, 1, 1, 1, 0, 1, 1, 1}, impl.ErrNone)
	wantIdeals(t, impl.Form{1, 0, 0, 4}, 10, []int64{1, 1, 1, 1, 1, 1, 0, 1, 1, 1}, impl.ErrNone)
}

// idealCase is a form with the ideal numbers at the powers of a prime number, from 1 on.
type idealCase struct {
	f    impl.Form
	q    int64
	want []int64
}

// TestIdealNumbersAtPowers has each kind at 2, at 3, and at prime numbers beyond MaxPrime.
func TestIdealNumbersAtPowers(t *testing.T) {
	cases := []idealCase{
		{impl.Form{1, 1, 1, 2}, 2, []int64{1, 1, 2, 2, 3, 3, 4, 4, 5}},
		{impl.Form{1, 0, -1, 1}, 2, []int64{1, 0, 0, 1, 0, 0, 1, 0, 0}},
		{impl.Form{1, 1, -2, 8}, 2, []int64{1, 2, 3, 4, 5, 6, 7, 8, 9}},
		{impl.Form{1, 0, 0, 2}, 2, []int64{1, 1, 1, 1, 1, 1, 1, 1, 1}},
		{impl.Form{1, 0, -4, 6}, 3, []int64{1, 3, 6, 10, 15, 21}},
		{impl.Form{1, 0, 1, 3}, 3, []int64{1, 1, 2, 2, 3, 3}},
		{impl.Form{1, 0, -1, 1}, 3, []int64{1, 0, 0, 1, 0, 0}},
		{impl.Form{1, 1, 0, 3}, 3, []int64{1, 2, 3, 4, 5, 6}},
		{impl.Form{1, 0, 0, 3}, 3, []int64{1, 1, 1, 1, 1, 1}},
		// With a root at 1, 0, once, twice and three times.
		{impl.Form{2, 1, 1, 4}, 2, []int64{1, 3, 6, 10, 15, 21, 28, 36, 45}},
		{impl.Form{2, 1, 1, 1}, 2, []int64{1, 1, 2, 2, 3, 3, 4, 4, 5}},
		{impl.Form{2, 2, 1, 5}, 2, []int64{1, 2, 3, 4, 5, 6, 7, 8, 9}},
		{impl.Form{2, 2, 2, 7}, 2, []int64{1, 1, 1, 1, 1, 1, 1, 1, 1}},
		{impl.Form{1, 0, -1, 1}, 101, []int64{1, 3}},
		{impl.Form{1, 0, -1, 1}, 103, []int64{1, 1}},
		{impl.Form{1, 0, -1, 1}, 127, []int64{1, 0}},
		{impl.Form{1, 1, 0, 101}, 101, []int64{1, 2}},
		{impl.Form{1, 0, 0, 101}, 101, []int64{1, 1}},
		{impl.Form{499, 1, 0, 499}, 499, []int64{1, 2}},
		{impl.Form{499, 0, 0, 3}, 499, []int64{1, 1}},
		{impl.Form{-1, 0, 1, 499}, 499, []int64{1, 3}},
	}
	for _, c := range cases {
		numbers := idealsTold(t, c.f, 500)
		power := int64(1)
		for times, want := range c.want {
			if numbers[power-1] != want {
				t.Errorf("IdealNumbers(%v): a(%d^%d) is %d, want %d", c.f, c.q, times, numbers[power-1], want)
			}
			power *= c.q
		}
	}
}

// TestIdealNumbersByHand multiplies the series of the kinds by hand; for some forms it looks at lesser n too.
func TestIdealNumbersByHand(t *testing.T) {
	var few, many, kinds [6]int
	for i, f := range fieldForms() {
		if content, _ := impl.ContentOf(f); content > 1 {
			wantIdeals(t, f, 500, nil, impl.ErrState)
			continue
		}
		want := idealsByHand(f, 500)
		wantIdeals(t, f, 500, want, impl.ErrNone)
		for n := int64(1); i%20 == 0 && n < 500; n += 7 {
			wantIdeals(t, f, n, want[:n], impl.ErrNone)
		}
		for q := int64(2); q <= 500; q++ {
			if !isPrimeByHand(q) {
				continue
			}
			kinds[kindAtAnyPrime(f, q)]++
			if q < 5 {
				few[kindAtAnyPrime(f, q)]++
			}
			if q > 97 {
				many[kindAtAnyPrime(f, q)]++
			}
		}
	}
	if slices.Min(kinds[1:]) < 20 || slices.Min(few[1:]) < 5 || slices.Min(many[1:]) < 2 || kinds[0] > 0 {
		t.Errorf("kinds %v, at 2 and 3 %v, beyond MaxPrime %v", kinds, few, many)
	}
}

// TestIdealNumbersAreProducts is the first part of the promise 9.
func TestIdealNumbersAreProducts(t *testing.T) {
	other := 0
	for _, f := range fieldForms() {
		if content, _ := impl.ContentOf(f); content > 1 {
			continue
		}
		numbers := idealsTold(t, f, 500)
		if numbers[0] != 1 {
			t.Errorf("IdealNumbers(%v): a(1) is %d", f, numbers[0])
		}
		for m := int64(1); m <= 500; m++ {
			for n := int64(1); m*n <= 500; n++ {
				product := numbers[m-1] * numbers[n-1]
				if !isPrimitiveByHand(m, n) {
					if numbers[m*n-1] != product {
						other++
					}
				} else if numbers[m*n-1] != product {
					t.Errorf("IdealNumbers(%v): a(%d) is %d, and a(%d) a(%d) is %d", f, m*n, numbers[m*n-1], m, n, product)
				}
			}
		}
	}
	if other == 0 {
		t.Errorf("all numbers are products, also those with a common divisor")
	}
}

// TestIdealNumbersOfTheLeastField: those of the discriminant -23 are sums, over the divisors of n, of the
// numbers of t times the product of all 1 - t^k and all 1 - t^23k.
func TestIdealNumbersOfTheLeastField(t *testing.T) {
	product := make([]int64, 501)
	product[1] = 1
	for _, step := range []int{1, 23} {
		for k := step; k <= 500; k += step {
			for i := 500; i >= k; i-- {
				product[i] -= product[i-k]
			}
		}
	}
	var want []int64
	for n := 1; n <= 500; n++ {
		var sum int64
		for k := 1; k <= n; k++ {
			if n%k == 0 {
				sum += product[k]
			}
		}
		want = append(want, sum)
	}
	for _, f := range []impl.Form{{1, 0, -1, 1}, {-1, -1, -2, -1}, {1, 3, 2, 1}, {1, -1, 0, 1}} {
		if d := discriminantByHand(f); d != -23 {
			t.Fatalf("the discriminant of %v is %d", f, d)
		}
		wantIdeals(t, f, 500, want, impl.ErrNone)
	}
}

func TestCountKinds(t *testing.T) {
	cases := []struct {
		f    impl.Form
		n    int64
		want []int64
	}{
		{impl.Form{1, 0, -1, 1}, 7, []int64{0, 0, 2, 2, 0, 0}},
		{impl.Form{1, 0, -1, 1}, 2, []int64{0, 0, 0, 1, 0, 0}},
		{impl.Form{1, 0, -1, 1}, 97, []int64{0, 1, 14, 9, 1, 0}},
		{impl.Form{1, 1, -2, -1}, 97, []int64{0, 7, 0, 17, 0, 1}},
		{impl.Form{2, 0, -2, 2}, 2, []int64{1, 0, 0, 0, 0, 0}},
		{impl.Form{30, 0, -30, 30}, 7, []int64{3, 0, 1, 0, 0, 0}},
		{impl.Form{1, 0, 0, 30}, 5, []int64{0, 0, 0, 0, 0, 3}},
		{impl.Form{1, 0, 0, 30}, 6, []int64{0, 0, 0, 0, 0, 3}},
	}
	for _, c := range cases {
		counts, code := impl.CountKinds(c.f, c.n)
		wantList(t, "CountKinds", counts, code, c.want, impl.ErrNone)
	}
}

func TestCountKindsByHand(t *testing.T) {
	for _, f := range fieldForms() {
		want := make([]int64, 6)
		for n := int64(2); n <= 97; n++ {
			if slices.Contains(allPrimes, n) {
				want[kindAtAnyPrime(f, n)]++
			}
			counts, code := impl.CountKinds(f, n)
			wantList(t, "CountKinds", counts, code, want, impl.ErrNone)
		}
	}
}

func TestKindByCharacter(t *testing.T) {
	for _, c := range []struct {
		f       impl.Form
		q, want int64
	}{
		{impl.Form{1, 0, -1, 1}, 2, 1}, {impl.Form{1, 0, -1, 1}, 3, 1}, {impl.Form{1, 0, -1, 1}, 5, -1}, {impl.Form{1, 0, -1, 1}, 23, 0},
		{impl.Form{1, 0, -1, 1}, 59, 1}, {impl.Form{1, 0, -1, 1}, 97, -1},
		// The prime number divides F alone, and not d: 49 is 1 times 7 7, and -44 is -11 times 2 2.
		{impl.Form{1, 1, -2, -1}, 7, 1}, {impl.Form{1, 1, -2, -1}, 2, 1}, {impl.Form{-1, -2, -2, -2}, 2, -1}, {impl.Form{-1, -2, -2, -2}, 11, 0},
		{impl.Form{1, 0, 0, 2}, 2, -1}, {impl.Form{1, 0, 0, 2}, 3, 0}, {impl.Form{1, 0, 0, 5}, 5, -1}, {impl.Form{1, 0, 0, 7}, 7, 1},
		{impl.Form{2, 0, -2, 2}, 2, 1}, {impl.Form{30, 0, -30, 30}, 5, -1}, {impl.Form{23, 0, -23, 23}, 23, 0},
		// d at the limit, of both signs, and below it with a greater discriminant.
		{impl.Form{122, -127, -65, -31}, 2, -1}, {impl.Form{122, -127, -65, -31}, 5, 0}, {impl.Form{4, -125, -95, 98}, 2, 1},
		{impl.Form{7 * 122, -7 * 127, -7 * 65, -7 * 31}, 7, -1}, {impl.Form{1000, 0, 0, 999}, 97, 1}, {impl.Form{1000, 0, 0, 999}, 89, -1},
	} {
		character, code := impl.KindByCharacter(c.f, c.q)
		wantNumber(t, "KindByCharacter", character, code, c.want, impl.ErrNone)
	}
}

// TestKindsGoWithTheCharacter is the promise 15, and the character is that of the resolvent.
func TestKindsGoWithTheCharacter(t *testing.T) {
	var counts [3][6]int
	for _, f := range append(tableTold(t, 3), fieldForms()...) {
		discriminant := discriminantByHand(f)
		d, _ := resolventByHand(discriminant)
		for _, q := range allPrimes {
			character, code := impl.KindByCharacter(f, q)
			if d < -billion || d > billion {
				wantNumber(t, "KindByCharacter", character, code, 0, impl.ErrLimit)
				continue
			}
			wantNumber(t, "KindByCharacter", character, code, characterByHand(d, q), impl.ErrNone)
			wantCharacter(t, d, q, character, impl.ErrNone)
			kind, _ := impl.KindModulo(f, q)
			counts[character+1][kind]++
			if discriminant%q == 0 {
				continue
			}
			want := int64(1)
			if kind == impl.Kind12 {
				want = -1
			}
			wantNumber(t, "KindByCharacter of a kind", character, kind, want, kindAtAnyPrime(f, q))
		}
	}
	for _, n := range []int{
		counts[2][impl.Kind111], counts[2][impl.Kind3], counts[0][impl.Kind12], counts[1][impl.KindSquare], counts[0][impl.KindCube],
		counts[1][impl.KindCube], counts[2][impl.KindCube], counts[0][impl.Kind0], counts[2][impl.Kind0], counts[2][impl.KindSquare],
	} {
		if n == 0 {
			t.Errorf("characters by kinds: %v", counts)
		}
	}
}

// TestResolventsBeyond: the limit is that of d, and not that of the discriminant.
func TestResolventsBeyond(t *testing.T) {
	for _, f := range []impl.Form{{-32, -89, 28, -129}, {-39, -127, 58, 98}, {999, 1000, -1000, -997}, {-1000, 999, 1000, -997}, {-64, -178, 56, -258}} {
		for _, q := range allPrimes {
			character, code := impl.KindByCharacter(f, q)
			wantNumber(t, "KindByCharacter", character, code, 0, impl.ErrLimit)
		}
	}
}

// wantCodeOfField gives f to each function that takes a form alone.
func wantCodeOfField(t *testing.T, f impl.Form, want int64) {
	t.Helper()
	wantSignature(t, f, 0, 0, want)
	order, code := impl.GroupOrder(f)
	wantNumber(t, "GroupOrder", order, code, 0, want)
	leading, code := impl.LeadingForm(f)
	wantForm(t, "LeadingForm", leading, code, impl.Form{}, want)
	is, code := impl.IsPure(f)
	wantBool(t, "IsPure", is, code, false, want)
}

// wantCodeOfNumbers gives f, and n or q, to all other functions.
func wantCodeOfNumbers(t *testing.T, f impl.Form, ideals, highest, q, want int64) {
	t.Helper()
	wantIdeals(t, f, ideals, nil, want)
	counts, code := impl.CountKinds(f, highest)
	wantList(t, "CountKinds", counts, code, nil, want)
	character, code := impl.KindByCharacter(f, q)
	wantNumber(t, "KindByCharacter", character, code, 0, want)
}

// beyondIdeals and beyondPrimes are refused by IdealNumbers and by CountKinds.
var (
	beyondIdeals = []int64{0, -1, -2, -500, 501, 502, 1000, math.MaxInt64, math.MinInt64}
	beyondPrimes = []int64{1, 0, -1, -97, 98, 99, 500, math.MaxInt64, math.MinInt64}
)

// TestInvalidFields: what is no form comes first, whatever the numbers are.
func TestInvalidFields(t *testing.T) {
	for i := range 4 {
		for _, far := range outside(1000) {
			for _, bad := range []impl.Form{{}, {1, 0, -1, 1}, {2, 0, -2, 2}, {1000, 1000, 1000, 999}} {
				bad[i] = far
				wantCodeOfField(t, bad, impl.ErrInvalid)
				wantCodeOfNumbers(t, bad, 10, 10, 7, impl.ErrInvalid)
				for k, n := range beyondIdeals {
					wantCodeOfNumbers(t, bad, n, beyondPrimes[k], noPrimes[k], impl.ErrInvalid)
				}
			}
		}
	}
}

// TestNumbersBeyondFields: numbers out of range come before forms that are not irreducible, not primitive,
// or have a d beyond the limit.
func TestNumbersBeyondFields(t *testing.T) {
	forms := append([]impl.Form{{1, 0, -1, 1}, {2, 0, -2, 2}, {1000, 1000, 1000, 999}, {1000, -1000, 1000, -1000}}, notIrreducible...)
	for _, f := range forms {
		for k, n := range beyondIdeals {
			wantCodeOfNumbers(t, f, n, beyondPrimes[k], noPrimes[k], impl.ErrRange)
		}
		for _, q := range noPrimes {
			character, code := impl.KindByCharacter(f, q)
			wantNumber(t, "KindByCharacter", character, code, 0, impl.ErrRange)
		}
	}
}

// TestFieldsOfOtherForms: the form 0, and forms with a rational root, have no field. Forms with a content
// greater than 1 have one, but no ideal numbers.
func TestFieldsOfOtherForms(t *testing.T) {
	forms := append([]impl.Form{{1000, -1000, 1000, -1000}, {1000, 0, 0, -1}, {0, 1000, 1, 999}, {999, 0, 1000, 0}}, notIrreducible...)
	for _, f := range forms {
		wantCodeOfField(t, f, impl.ErrState)
		wantCodeOfNumbers(t, f, 500, 97, 97, impl.ErrState)
		wantCodeOfNumbers(t, f, 1, 2, 2, impl.ErrState)
	}
	for _, f := range []impl.Form{{2, 0, -2, 2}, {-3, 0, 3, -3}, {0, 0, 0, 0}, {1000, 1000, -500, 500}, {97, 0, 0, 194}} {
		for _, n := range []int64{1, 2, 10, 500} {
			wantIdeals(t, f, n, nil, impl.ErrState)
		}
	}
}

// TestListsOfFieldsAreNew: lists that the caller changes, with their spare memory, are not those of the next
// call.
func TestListsOfFieldsAreNew(t *testing.T) {
	f := impl.Form{1, 0, -1, 1}
	for range 2 {
		numbers, code := impl.IdealNumbers(f, 5)
		wantList(t, "IdealNumbers", numbers, code, []int64{1, 0, 0, 0, 1}, impl.ErrNone)
		counts, code := impl.CountKinds(f, 7)
		wantList(t, "CountKinds", counts, code, []int64{0, 0, 2, 2, 0, 0}, impl.ErrNone)
		spoilLists(t, [][]int64{numbers, counts})
	}
}
