package tests

import (
	"math"
	"math/big"
	"slices"
	"testing"

	"loop.example/g01342/impl"
)

var allPrimes = []int64{2, 3, 5, 7, 11, 13, 17, 19, 23, 29, 31, 37, 41, 43, 47, 53, 59, 61, 67, 71, 73, 79, 83, 89, 97}

// noPrimes are numbers that are refused as primes: some are prime numbers, but beyond MaxPrime, or
// less than 0.
var noPrimes = []int64{
	math.MinInt64, -97, -7, -2, -1, 0, 1, 4, 6, 8, 9, 10, 15, 21, 25, 27, 33, 35, 49, 51, 55, 57, 63, 65, 77, 85,
	87, 91, 93, 95, 96, 98, 99, 100, 101, 103, 194, 499, 9409, math.MaxInt64,
}

func pointsByHand(p int64) [][]int64 {
	var points [][]int64
	for x := int64(0); x < p; x++ {
		points = append(points, []int64{x, 1})
	}
	return append(points, []int64{1, 0})
}

func timesForm(k int64, f impl.Form) impl.Form {
	return impl.Form{k * f[0], k * f[1], k * f[2], k * f[3]}
}

func areSameModulo(f, g impl.Form, p int64) bool {
	for i := range f {
		if (f[i]-g[i])%p != 0 {
			return false
		}
	}
	return true
}

// multiplicityByHand tries all forms that the chapter names for a root.
func multiplicityByHand(f impl.Form, x, y, p int64) int64 {
	linear := [2]int64{y, -x}
	for k := int64(1); k < p; k++ {
		if areSameModulo(f, timesForm(k, productOf(linear, linear, linear)), p) {
			return 3
		}
	}
	for u := int64(0); u < p; u++ {
		for v := int64(0); v < p; v++ {
			if areSameModulo(f, productOf(linear, linear, [2]int64{u, v}), p) {
				return 2
			}
		}
	}
	return 1
}

func rootsByHand(f impl.Form, p int64) [][]int64 {
	var roots [][]int64
	for _, at := range pointsByHand(p) {
		if valueByHand(f, at[0], at[1])%p == 0 {
			roots = append(roots, []int64{at[0], at[1], multiplicityByHand(f, at[0], at[1], p)})
		}
	}
	return roots
}

func kindByHand(roots [][]int64) int64 {
	var times []int64
	for _, root := range roots {
		times = append(times, root[2])
	}
	slices.Sort(times)
	switch {
	case len(times) == 0:
		return impl.Kind3
	case slices.Equal(times, []int64{1}):
		return impl.Kind12
	case slices.Equal(times, []int64{1, 1, 1}):
		return impl.Kind111
	case slices.Equal(times, []int64{1, 2}):
		return impl.KindSquare
	case slices.Equal(times, []int64{3}):
		return impl.KindCube
	}
	return -1
}

// formsModulo are all forms with numbers in 0..p - 1.
func formsModulo(p int64) []impl.Form {
	var all []impl.Form
	for digits := range p * p * p * p {
		all = append(all, impl.Form{digits / (p * p * p), digits / (p * p) % p, digits / p % p, digits % p})
	}
	return all
}

// rationalRootsByHand looks at all places that the numbers of f allow.
func rationalRootsByHand(f impl.Form, limit int64) [][]int64 {
	var roots [][]int64
	for y := int64(0); y <= limit; y++ {
		for x := -limit; x <= limit; x++ {
			if valueByHand(f, x, y) != 0 || y == 0 && x != 1 {
				continue
			}
			if new(big.Int).GCD(nil, nil, big.NewInt(max(x, -x)), big.NewInt(y)).Int64() == 1 {
				roots = append(roots, []int64{x, y})
			}
		}
	}
	return roots
}

// productByNumbers is the product of two forms of any degrees.
func productByNumbers(m, n []int64) []int64 {
	product := make([]int64, len(m)+len(n)-1)
	for i := range m {
		for j := range n {
			product[i+j] += m[i] * n[j]
		}
	}
	return product
}

// factorableForms have all numbers of rational roots, at 1, 0 and 0, 1 too, and some twice or three
// times, with contents and signs.
func factorableForms() []impl.Form {
	linear := [][2]int64{{0, 1}, {1, 0}, {1, -1}, {2, 1}, {-3, 2}, {5, 0}, {7, 4}}
	var all []impl.Form
	for _, k := range linear {
		for _, l := range linear {
			for _, m := range linear {
				all = append(all, productOf(k, l, m))
			}
		}
		for _, quadratic := range [][]int64{{1, 0, 1}, {2, 1, -2}, {-3, 1, 1}, {4, 0, -8}, {1, 1, 1}, {6, 0, 9}} {
			all = append(all, impl.Form(productByNumbers(k[:], quadratic)))
		}
	}
	return all
}

type factorsCase struct {
	f             impl.Form
	sign, content int64
	roots         [][]int64
	rest          []int64
	code          int64
}

func wantFactors(t *testing.T, c factorsCase) {
	t.Helper()
	sign, content, roots, rest, code := impl.FactorForm(c.f)
	if sign != c.sign || content != c.content || !slices.EqualFunc(roots, c.roots, slices.Equal) || !slices.Equal(rest, c.rest) || code != c.code {
		t.Errorf("FactorForm(%v) = %d, %d, %v, %v, %d, want %v", c.f, sign, content, roots, rest, code, c)
	}
}

func TestKindConstants(t *testing.T) {
	kinds := []int64{impl.Kind0, impl.Kind111, impl.Kind12, impl.Kind3, impl.KindSquare, impl.KindCube}
	if !slices.Equal(kinds, []int64{0, 1, 2, 3, 4, 5}) || impl.MaxPrime != 97 {
		t.Errorf("kinds %v, MaxPrime %d", kinds, impl.MaxPrime)
	}
}

func TestRootsModulo(t *testing.T) {
	cases := []struct {
		f    impl.Form
		p    int64
		want [][]int64
		kind int64
	}{
		{impl.Form{1, 0, -1, 1}, 2, nil, impl.Kind3},
		{impl.Form{1, 0, -1, 1}, 3, nil, impl.Kind3},
		{impl.Form{1, 0, -1, 1}, 5, [][]int64{{3, 1, 1}}, impl.Kind12},
		{impl.Form{1, 0, -1, 1}, 23, [][]int64{{13, 1, 2}, {20, 1, 1}}, impl.KindSquare},
		{impl.Form{0, 1, 1, 0}, 2, [][]int64{{0, 1, 1}, {1, 1, 1}, {1, 0, 1}}, impl.Kind111},
		{impl.Form{1, 0, -1, 0}, 3, [][]int64{{0, 1, 1}, {1, 1, 1}, {2, 1, 1}}, impl.Kind111},
		{impl.Form{1, 0, 0, 3}, 3, [][]int64{{0, 1, 3}}, impl.KindCube},
		{impl.Form{1, 0, 0, 1}, 3, [][]int64{{2, 1, 3}}, impl.KindCube},
		{impl.Form{1, 1, 1, 1}, 2, [][]int64{{1, 1, 3}}, impl.KindCube},
		{impl.Form{1, 1, 1, 0}, 2, [][]int64{{0, 1, 1}}, impl.Kind12},
		{impl.Form{1, 0, 1, 0}, 2, [][]int64{{0, 1, 1}, {1, 1, 2}}, impl.KindSquare},
		// Roots at 1, 0 alone, and beside others.
		{impl.Form{2, 4, 6, 3}, 2, [][]int64{{1, 0, 3}}, impl.KindCube},
		{impl.Form{97, 0, 97, 1}, 97, [][]int64{{1, 0, 3}}, impl.KindCube},
		{impl.Form{3, 0, 1, 1}, 3, [][]int64{{2, 1, 1}, {1, 0, 2}}, impl.KindSquare},
		{impl.Form{-5, 1, 0, 0}, 5, [][]int64{{0, 1, 2}, {1, 0, 1}}, impl.KindSquare},
		{impl.Form{0, 1, 0, 1}, 3, [][]int64{{1, 0, 1}}, impl.Kind12},
		{impl.Form{0, 1, 0, 1}, 5, [][]int64{{2, 1, 1}, {3, 1, 1}, {1, 0, 1}}, impl.Kind111},
		// The numbers of greatest absolute values.
		{impl.Form{1000, -1000, 1000, -1000}, 97, [][]int64{{1, 1, 1}, {22, 1, 1}, {75, 1, 1}}, impl.Kind111},
		{impl.Form{-1000, -1000, -1000, -1000}, 3, [][]int64{{2, 1, 1}}, impl.Kind12},
		{impl.Form{1000, 0, 0, 1}, 2, [][]int64{{1, 0, 3}}, impl.KindCube},
		{impl.Form{-1000, 1000, 0, 999}, 5, [][]int64{{1, 0, 3}}, impl.KindCube},
	}
	for _, c := range cases {
		roots, code := impl.RootsModulo(c.f, c.p)
		wantRows(t, "RootsModulo", roots, code, c.want, impl.ErrNone)
		kind, code := impl.KindModulo(c.f, c.p)
		wantNumber(t, "KindModulo", kind, code, c.kind, impl.ErrNone)
		n, code := impl.CountRoots(c.f, c.p)
		wantNumber(t, "CountRoots", n, code, int64(len(c.want)), impl.ErrNone)
	}
}

// wantByHand compares the functions of a form and a prime with what the chapter says, the promise 5
// among it: kinds go with roots and with the discriminant. It returns the kind.
func wantByHand(t *testing.T, f impl.Form, p int64) int64 {
	t.Helper()
	roots, kind, count, wantCode := rootsByHand(f, p), int64(impl.Kind0), p+1, int64(impl.ErrState)
	if areSameModulo(f, impl.Form{}, p) {
		roots = nil
	} else {
		kind, count, wantCode = kindByHand(roots), int64(len(roots)), impl.ErrNone
	}
	got, code := impl.RootsModulo(f, p)
	wantRows(t, "RootsModulo", got, code, roots, wantCode)
	n, code := impl.KindModulo(f, p)
	wantNumber(t, "KindModulo", n, code, kind, impl.ErrNone)
	n, code = impl.CountRoots(f, p)
	wantNumber(t, "CountRoots", n, code, count, impl.ErrNone)
	isRamified, code := impl.IsRamified(f, p)
	wantBool(t, "IsRamified", isRamified, code, discriminantByHand(f)%p == 0, impl.ErrNone)
	if hasRepeated := kind == impl.Kind0 || kind == impl.KindSquare || kind == impl.KindCube; hasRepeated != isRamified {
		t.Errorf("%v modulo %d has the kind %d, and is ramified: %v", f, p, kind, isRamified)
	}
	return kind
}

// TestKindsOfAllForms looks at all forms modulo small primes, and at others with the same rests.
func TestKindsOfAllForms(t *testing.T) {
	for _, p := range []int64{2, 3, 5, 7} {
		var counts [6]int64
		for i, f := range formsModulo(p) {
			counts[wantByHand(t, f, p)]++
			if p > 5 {
				continue
			}
			k := int64(i)
			wantByHand(t, impl.Form{f[0] - p, f[1] + k%3*p, f[2] - k%5*p, f[3] - 17*p}, p)
		}
		if slices.Min(counts[:]) == 0 {
			t.Errorf("kinds modulo %d: %v", p, counts)
		}
	}
}

// TestKindsModuloAllPrimes looks at forms of all kinds, discriminants and contents.
func TestKindsModuloAllPrimes(t *testing.T) {
	forms := slices.Concat(mixedForms(30), factorableForms(), []impl.Form{{1000, 970, 970, 873}, {194, -97, 0, 970}, {97, 0, 0, 1}})
	if signs := signsOfDiscriminants(forms); slices.Min(signs[:]) < 20 {
		t.Fatalf("discriminants with signs %v", signs)
	}
	for _, p := range allPrimes {
		var counts [6]int
		for _, f := range forms {
			counts[wantByHand(t, f, p)]++
		}
		if slices.Min(counts[:]) == 0 {
			t.Errorf("kinds modulo %d: %v", p, counts)
		}
	}
}

// TestKindsOfChangedForms: unit matrices keep the kinds, and the roots go to the places changed.
func TestKindsOfChangedForms(t *testing.T) {
	forms := append(factorableForms(), smallForms(1)...)
	for _, m := range append(unitsWithin(1), impl.Matrix{2, 1, 1, 1}, impl.Matrix{1, 3, 0, -1}, impl.Matrix{2, -3, -1, 2}) {
		for _, f := range forms {
			g, code := impl.ChangeForm(f, m)
			if code != impl.ErrNone {
				continue
			}
			want, code := impl.KindsUpTo(f, 97)
			if len(want) != 25 || code != impl.ErrNone {
				t.Fatalf("KindsUpTo(%v, 97) = %v, %d", f, want, code)
			}
			got, code := impl.KindsUpTo(g, 97)
			wantList(t, "KindsUpTo of the changed form", got, code, want, impl.ErrNone)
			roots, _ := impl.RootsModulo(g, 13)
			others, _ := impl.RootsModulo(f, 13)
			if len(roots) != len(others) {
				t.Errorf("%v has the roots %v, and changed by %v %v", f, others, m, roots)
			}
			for _, root := range roots {
				x, y := m[0]*root[0]+m[1]*root[1], m[2]*root[0]+m[3]*root[1]
				if !slices.ContainsFunc(others, func(o []int64) bool { return (o[0]*y-o[1]*x)%13 == 0 && o[2] == root[2] }) {
					t.Errorf("%v has the roots %v, and changed by %v %v", f, others, m, roots)
				}
			}
		}
	}
}

func TestCountKind(t *testing.T) {
	for kind, want := range []int64{1, 14601216, 43803648, 29202432, 912576, 9408} {
		n, code := impl.CountKind(97, int64(kind))
		wantNumber(t, "CountKind of 97", n, code, want, impl.ErrNone)
	}
	for _, p := range []int64{2, 3, 5, 7, 11} {
		var counts [6]int64
		for _, f := range formsModulo(p) {
			kind, code := impl.KindModulo(f, p)
			if kind < 0 || kind > 5 || code != impl.ErrNone {
				t.Fatalf("KindModulo(%v, %d) = %d, %d", f, p, kind, code)
			}
			counts[kind]++
		}
		for kind, want := range counts {
			n, code := impl.CountKind(p, int64(kind))
			wantNumber(t, "CountKind", n, code, want, impl.ErrNone)
		}
	}
	for _, p := range allPrimes {
		var sum int64
		for kind := range int64(6) {
			n, code := impl.CountKind(p, kind)
			if n < 1 || code != impl.ErrNone {
				t.Errorf("CountKind(%d, %d) = %d, %d", p, kind, n, code)
			}
			sum += n
		}
		wantNumber(t, "the sum of all kinds", sum, 0, p*p*p*p, 0)
		for _, kind := range []int64{-1, 6, 7, 111, math.MaxInt64, math.MinInt64} {
			n, code := impl.CountKind(p, kind)
			wantNumber(t, "CountKind of no kind", n, code, 0, impl.ErrRange)
		}
	}
	for _, p := range noPrimes {
		for _, kind := range []int64{0, 1, 2, 3, 4, 5, 6, -1} {
			n, code := impl.CountKind(p, kind)
			wantNumber(t, "CountKind of no prime", n, code, 0, impl.ErrRange)
		}
	}
}

func TestRationalRoots(t *testing.T) {
	cases := []struct {
		f    impl.Form
		want [][]int64
	}{
		{impl.Form{1, 0, -1, 1}, nil},
		{impl.Form{2, 4, 0, 6}, nil},
		{impl.Form{1, 0, 0, 1}, [][]int64{{-1, 1}}},
		{impl.Form{0, 2, -1, -1}, [][]int64{{1, 0}, {1, 1}, {-1, 2}}},
		{impl.Form{1, 0, -4, 0}, [][]int64{{-2, 1}, {0, 1}, {2, 1}}},
		{impl.Form{6, -11, 6, -1}, [][]int64{{1, 1}, {1, 2}, {1, 3}}},
		{impl.Form{0, 1, 0, -2}, [][]int64{{1, 0}}},
		{impl.Form{4, 0, -3, 1}, [][]int64{{-1, 1}, {1, 2}}},
		{impl.Form{1, 3, 3, 1}, [][]int64{{-1, 1}}},
		{impl.Form{0, 0, 2, 0}, [][]int64{{1, 0}, {0, 1}}},
		{impl.Form{7, 0, 0, 0}, [][]int64{{0, 1}}},
		{impl.Form{0, 0, 0, -7}, [][]int64{{1, 0}}},
		// The greatest numbers and places.
		{impl.Form{1000, -1, 0, 0}, [][]int64{{0, 1}, {1, 1000}}},
		{impl.Form{1, 1000, 0, 0}, [][]int64{{-1000, 1}, {0, 1}}},
		{impl.Form{0, 0, 1, -1000}, [][]int64{{1, 0}, {1000, 1}}},
		{impl.Form{0, 0, 1000, 1}, [][]int64{{1, 0}, {-1, 1000}}},
		{impl.Form{0, 999, 1000, 0}, [][]int64{{1, 0}, {0, 1}, {-1000, 999}}},
		{impl.Form{0, -1000, 999, 0}, [][]int64{{1, 0}, {0, 1}, {999, 1000}}},
		{impl.Form{-1000, 300, -30, 1}, [][]int64{{1, 10}}},
		{impl.Form{729, 0, 0, 1000}, [][]int64{{-10, 9}}},
		{impl.Form{1000, 1000, -1000, -1000}, [][]int64{{-1, 1}, {1, 1}}},
		{impl.Form{997, -995, 995, -997}, [][]int64{{1, 1}}},
		{impl.Form{1000, -999, 1000, -999}, [][]int64{{999, 1000}}},
		{impl.Form{1000, 1000, 1000, 999}, nil},
	}
	for _, c := range cases {
		roots, code := impl.RationalRoots(c.f)
		wantRows(t, "RationalRoots", roots, code, c.want, impl.ErrNone)
		is, code := impl.IsIrreducible(c.f)
		wantBool(t, "IsIrreducible", is, code, len(c.want) == 0, impl.ErrNone)
	}
}

// TestRationalRootsBySearch is the last part of the guarantee: forms with a rational root are not
// irreducible, and others are.
func TestRationalRootsBySearch(t *testing.T) {
	var counts [4]int
	wantRoots := func(f impl.Form, limit int64) {
		t.Helper()
		want := rationalRootsByHand(f, limit)
		counts[len(want)]++
		roots, code := impl.RationalRoots(f)
		wantRows(t, "RationalRoots", roots, code, want, impl.ErrNone)
		is, code := impl.IsIrreducible(f)
		wantBool(t, "IsIrreducible", is, code, len(want) == 0, impl.ErrNone)
	}
	for _, numbers := range smallMatrices(3) {
		if f := impl.Form(numbers); f != (impl.Form{}) {
			wantRoots(f, 3)
		}
	}
	for _, f := range append(factorableForms(), ringForms(40)...) {
		if f != (impl.Form{}) {
			wantRoots(f, 100)
		}
	}
	for _, f := range []impl.Form{{1000, -1000, 1000, -1000}, {999, 1000, -999, -1000}, {1000, 997, -3, 0}, {720, -360, 840, -420}, {0, 1000, 1, -999}, {1000, 0, 0, -1}} {
		wantRoots(f, 1000)
	}
	if slices.Min(counts[:]) < 100 {
		t.Errorf("forms by numbers of roots: %v", counts)
	}
}

func TestFactorForm(t *testing.T) {
	cases := []factorsCase{
		{impl.Form{-2, 0, 0, -2}, -1, 2, [][]int64{{-1, 1}}, []int64{1, -1, 1}, impl.ErrNone},
		{impl.Form{0, 0, 3, 3}, 1, 3, [][]int64{{1, 0}, {1, 0}, {-1, 1}}, []int64{1}, impl.ErrNone},
		{impl.Form{0, 0, -3, -3}, -1, 3, [][]int64{{1, 0}, {1, 0}, {-1, 1}}, []int64{1}, impl.ErrNone},
		// No rational roots.
		{impl.Form{1, 0, -1, 1}, 1, 1, nil, []int64{1, 0, -1, 1}, impl.ErrNone},
		{impl.Form{-4, 0, 4, -4}, -1, 4, nil, []int64{1, 0, -1, 1}, impl.ErrNone},
		{impl.Form{1000, 0, 0, 500}, 1, 500, nil, []int64{2, 0, 0, 1}, impl.ErrNone},
		// One.
		{impl.Form{0, 1, 0, 1}, -1, 1, [][]int64{{1, 0}}, []int64{1, 0, 1}, impl.ErrNone},
		{impl.Form{0, -5, 0, 10}, 1, 5, [][]int64{{1, 0}}, []int64{1, 0, -2}, impl.ErrNone},
		{impl.Form{6, 0, 9, 0}, 1, 3, [][]int64{{0, 1}}, []int64{2, 0, 3}, impl.ErrNone},
		{impl.Form{1000, -999, 1000, -999}, 1, 1, [][]int64{{999, 1000}}, []int64{1, 0, 1}, impl.ErrNone},
		{impl.Form{-1000, 999, -1000, 999}, -1, 1, [][]int64{{999, 1000}}, []int64{1, 0, 1}, impl.ErrNone},
		{impl.Form{729, 0, 0, 1000}, 1, 1, [][]int64{{-10, 9}}, []int64{81, -90, 100}, impl.ErrNone},
		// Two, one of them twice.
		{impl.Form{4, 0, -3, 1}, 1, 1, [][]int64{{-1, 1}, {1, 2}, {1, 2}}, []int64{1}, impl.ErrNone},
		{impl.Form{0, 1, 0, 0}, -1, 1, [][]int64{{1, 0}, {0, 1}, {0, 1}}, []int64{1}, impl.ErrNone},
		{impl.Form{0, 0, 1, 0}, 1, 1, [][]int64{{1, 0}, {1, 0}, {0, 1}}, []int64{1}, impl.ErrNone},
		{impl.Form{1000, -1, 0, 0}, 1, 1, [][]int64{{0, 1}, {0, 1}, {1, 1000}}, []int64{1}, impl.ErrNone},
		// Three different ones.
		{impl.Form{1, -6, 11, -6}, 1, 1, [][]int64{{1, 1}, {2, 1}, {3, 1}}, []int64{1}, impl.ErrNone},
		{impl.Form{-12, 22, -12, 2}, -1, 2, [][]int64{{1, 1}, {1, 2}, {1, 3}}, []int64{1}, impl.ErrNone},
		{impl.Form{0, 2, -1, -1}, -1, 1, [][]int64{{1, 0}, {1, 1}, {-1, 2}}, []int64{1}, impl.ErrNone},
		{impl.Form{0, -999, -1000, 0}, 1, 1, [][]int64{{1, 0}, {0, 1}, {-1000, 999}}, []int64{1}, impl.ErrNone},
		// The same one three times.
		{impl.Form{7, 0, 0, 0}, 1, 7, [][]int64{{0, 1}, {0, 1}, {0, 1}}, []int64{1}, impl.ErrNone},
		{impl.Form{0, 0, 0, 5}, -1, 5, [][]int64{{1, 0}, {1, 0}, {1, 0}}, []int64{1}, impl.ErrNone},
		{impl.Form{0, 0, 0, -1000}, 1, 1000, [][]int64{{1, 0}, {1, 0}, {1, 0}}, []int64{1}, impl.ErrNone},
		{impl.Form{-16, -24, -12, -2}, -1, 2, [][]int64{{-1, 2}, {-1, 2}, {-1, 2}}, []int64{1}, impl.ErrNone},
		{impl.Form{-1000, 300, -30, 1}, -1, 1, [][]int64{{1, 10}, {1, 10}, {1, 10}}, []int64{1}, impl.ErrNone},
	}
	for _, c := range cases {
		wantFactors(t, c)
	}
}

// wantRest: the rest has no common divisor, begins with a number greater than 0, and has no factors.
func wantRest(t *testing.T, f impl.Form, rest []int64) {
	t.Helper()
	content := new(big.Int)
	for _, n := range rest {
		content.GCD(nil, nil, content, new(big.Int).Abs(big.NewInt(n)))
	}
	if content.Int64() != 1 || rest[0] <= 0 {
		t.Errorf("FactorForm(%v) has the rest %v", f, rest)
	}
	switch len(rest) {
	case 1:
	case 3:
		discriminant := rest[1]*rest[1] - 4*rest[0]*rest[2]
		if root := int64(math.Sqrt(math.Max(0, float64(discriminant))) + 0.5); root*root == discriminant {
			t.Errorf("FactorForm(%v) has the rest %v", f, rest)
		}
	case 4:
		if is, code := impl.IsIrreducible(f); !is || code != impl.ErrNone {
			t.Errorf("FactorForm(%v) has the rest %v, IsIrreducible is %v, %d", f, rest, is, code)
		}
	default:
		t.Errorf("FactorForm(%v) has the rest %v", f, rest)
	}
}

// TestFactorsLeadBack is the second part of the promise 5.
func TestFactorsLeadBack(t *testing.T) {
	forms := slices.Concat(factorableForms(), mixedForms(100), []impl.Form{{0, 999, 1000, 0}, {720, -360, 840, -420}, {0, 0, 0, -1000}})
	for _, numbers := range smallMatrices(3) {
		forms = append(forms, impl.Form(numbers))
	}
	var counts [4]int
	for _, f := range forms {
		if f == (impl.Form{}) {
			continue
		}
		sign, content, roots, rest, code := impl.FactorForm(f)
		if sign != 1 && sign != -1 || len(rest) == 0 || len(rest)+len(roots) != 4 || code != impl.ErrNone {
			t.Fatalf("FactorForm(%v) = %d, %d, %v, %v, %d", f, sign, content, roots, rest, code)
		}
		counts[len(roots)]++
		wantRest(t, f, rest)
		want, _ := impl.ContentOf(f)
		wantNumber(t, "the content", content, 0, want, 0)
		product := productByNumbers([]int64{sign * content}, rest)
		for _, root := range roots {
			product = productByNumbers(product, []int64{root[1], -root[0]})
		}
		wantList(t, "the product of the factors", product, 0, f[:], 0)
		different, _ := impl.RationalRoots(f)
		wantRows(t, "the different roots", slices.CompactFunc(roots, slices.Equal), 0, different, 0)
	}
	if counts[0] < 100 || counts[1] < 100 || counts[2] > 0 || counts[3] < 100 {
		t.Errorf("forms by numbers of factors: %v", counts)
	}
}

func TestKindsUpTo(t *testing.T) {
	f := impl.Form{1, 0, -1, 1}
	want := []int64{
		impl.Kind3, impl.Kind3, impl.Kind12, impl.Kind12, impl.Kind12, impl.Kind3, impl.Kind12, impl.Kind12, impl.KindSquare,
	}
	for n, length := range map[int64]int{2: 1, 3: 2, 4: 2, 7: 4, 10: 4, 22: 8, 23: 9, 28: 9} {
		kinds, code := impl.KindsUpTo(f, n)
		wantList(t, "KindsUpTo", kinds, code, want[:length], impl.ErrNone)
	}
	for _, f := range append(sampleForms(), impl.Form{30, 60, -210, 0}) {
		for n := int64(2); n <= 97; n++ {
			var want []int64
			for _, p := range allPrimes {
				if kind, _ := impl.KindModulo(f, p); p <= n {
					want = append(want, kind)
				}
			}
			kinds, code := impl.KindsUpTo(f, n)
			wantList(t, "KindsUpTo", kinds, code, want, impl.ErrNone)
		}
	}
}

func TestPrimesUpTo(t *testing.T) {
	for n := int64(2); n <= 97; n++ {
		var want []int64
		for _, p := range allPrimes {
			if p <= n {
				want = append(want, p)
			}
		}
		primes, code := impl.PrimesUpTo(n)
		wantList(t, "PrimesUpTo", primes, code, want, impl.ErrNone)
	}
	for _, n := range []int64{1, 0, -1, -97, 98, 100, 101, math.MaxInt64, math.MinInt64} {
		primes, code := impl.PrimesUpTo(n)
		wantList(t, "PrimesUpTo", primes, code, nil, impl.ErrRange)
		for _, f := range []impl.Form{{}, {1, 0, -1, 1}, {1000, 1000, 1000, 1000}} {
			kinds, code := impl.KindsUpTo(f, n)
			wantList(t, "KindsUpTo", kinds, code, nil, impl.ErrRange)
		}
	}
}

// wantCodeOfPrime gives f and p to each function of a form and a prime.
func wantCodeOfPrime(t *testing.T, f impl.Form, p int64, want int64) {
	t.Helper()
	roots, code := impl.RootsModulo(f, p)
	wantRows(t, "RootsModulo", roots, code, nil, want)
	n, code := impl.KindModulo(f, p)
	wantNumber(t, "KindModulo", n, code, 0, want)
	n, code = impl.CountRoots(f, p)
	wantNumber(t, "CountRoots", n, code, 0, want)
	is, code := impl.IsRamified(f, p)
	wantBool(t, "IsRamified", is, code, false, want)
}

// TestInvalidModuloPrimes: what is no form comes first, whatever p and n are.
func TestInvalidModuloPrimes(t *testing.T) {
	for i := range 4 {
		for _, far := range outside(1000) {
			bad := impl.Form{}
			bad[i] = far
			for _, p := range append(slices.Clone(noPrimes), 2, 3, 7, 11, 97) {
				wantCodeOfPrime(t, bad, p, impl.ErrInvalid)
				kinds, code := impl.KindsUpTo(bad, p)
				wantList(t, "KindsUpTo", kinds, code, nil, impl.ErrInvalid)
			}
			roots, code := impl.RationalRoots(bad)
			wantRows(t, "RationalRoots", roots, code, nil, impl.ErrInvalid)
			is, code := impl.IsIrreducible(bad)
			wantBool(t, "IsIrreducible", is, code, false, impl.ErrInvalid)
			wantFactors(t, factorsCase{f: bad, code: impl.ErrInvalid})
		}
	}
}

// TestNoPrimes has forms with multiples of p alone, so that ErrRange is seen to come before ErrState.
func TestNoPrimes(t *testing.T) {
	for _, p := range noPrimes {
		for _, f := range []impl.Form{{}, {1, 0, -1, 1}, {4, 0, 8, -4}, {9, 18, 0, 0}, {1000, -1000, 0, 1000}, {0, 0, 0, 101}} {
			wantCodeOfPrime(t, f, p, impl.ErrRange)
		}
	}
}

// TestFormsThatAreZero: the form 0, and forms that are 0 modulo p.
func TestFormsThatAreZero(t *testing.T) {
	zero := impl.Form{}
	lists, code := impl.RationalRoots(zero)
	wantRows(t, "RationalRoots", lists, code, nil, impl.ErrState)
	is, code := impl.IsIrreducible(zero)
	wantBool(t, "IsIrreducible", is, code, false, impl.ErrNone)
	wantFactors(t, factorsCase{f: zero, code: impl.ErrState})
	kinds, code := impl.KindsUpTo(zero, 97)
	wantList(t, "KindsUpTo", kinds, code, make([]int64, 25), impl.ErrNone)
	for _, p := range allPrimes {
		for _, f := range []impl.Form{zero, {p, 0, 0, 0}, {0, 0, 0, -p}, {-3 * p, 2 * p, 10 * p, p}, {1000 / p * p, p, -1000 / p * p, 0}} {
			lists, code := impl.RootsModulo(f, p)
			wantRows(t, "RootsModulo", lists, code, nil, impl.ErrState)
			n, code := impl.KindModulo(f, p)
			wantNumber(t, "KindModulo", n, code, impl.Kind0, impl.ErrNone)
			n, code = impl.CountRoots(f, p)
			wantNumber(t, "CountRoots", n, code, p+1, impl.ErrNone)
			is, code := impl.IsRamified(f, p)
			wantBool(t, "IsRamified", is, code, true, impl.ErrNone)
		}
	}
}

// spoilLists changes each list with its spare memory, and asks whether the others stay.
func spoilLists(t *testing.T, lists [][]int64) {
	t.Helper()
	for i, list := range lists {
		var before [][]int64
		for _, other := range slices.Delete(slices.Clone(lists), i, i+1) {
			before = append(before, slices.Clone(other))
		}
		behind := list[:cap(list)]
		for k := range behind {
			behind[k] = 77
		}
		wantRows(t, "the other lists", slices.Delete(slices.Clone(lists), i, i+1), 0, before, 0)
	}
}

// TestListsOfPrimesAreNew: no two lists share memory, also where the same root is told three times,
// and a list that the caller changes is not the one of the next call.
func TestListsOfPrimesAreNew(t *testing.T) {
	cube := impl.Form{8, 12, 6, 1}
	for range 2 {
		primes, code := impl.PrimesUpTo(7)
		wantList(t, "PrimesUpTo", primes, code, []int64{2, 3, 5, 7}, impl.ErrNone)
		kinds, code := impl.KindsUpTo(cube, 5)
		wantList(t, "KindsUpTo", kinds, code, []int64{impl.KindCube, impl.KindCube, impl.KindCube}, impl.ErrNone)
		spoilLists(t, [][]int64{primes, kinds})
		roots, code := impl.RootsModulo(impl.Form{0, 1, 1, 0}, 2)
		wantRows(t, "RootsModulo", roots, code, [][]int64{{0, 1, 1}, {1, 1, 1}, {1, 0, 1}}, impl.ErrNone)
		spoilLists(t, roots)
		rational, code := impl.RationalRoots(impl.Form{0, 2, -1, -1})
		wantRows(t, "RationalRoots", rational, code, [][]int64{{1, 0}, {1, 1}, {-1, 2}}, impl.ErrNone)
		spoilLists(t, rational)
		wantFactors(t, factorsCase{cube, 1, 1, [][]int64{{-1, 2}, {-1, 2}, {-1, 2}}, []int64{1}, impl.ErrNone})
		_, _, factors, rest, _ := impl.FactorForm(cube)
		spoilLists(t, append(slices.Clone(factors), rest))
	}
}
