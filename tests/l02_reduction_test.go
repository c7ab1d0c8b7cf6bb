package tests

import (
	"math"
	"slices"
	"testing"

	"loop.example/g01342/impl"
)

// discriminantByHand is the discriminant from the Hessian, apart from the program's own sum.
func discriminantByHand(f impl.Form) int64 {
	p, q, r := f[1]*f[1]-3*f[0]*f[2], f[1]*f[2]-9*f[0]*f[3], f[2]*f[2]-3*f[1]*f[3]
	return (4*p*r - q*q) / 3
}

// reducedByRule follows the chapter's two conditions word by word.
func reducedByRule(f impl.Form) bool {
	a, b, c, d := f[0], f[1], f[2], f[3]
	if discriminantByHand(f) > 0 {
		p, q, r := b*b-3*a*c, b*c-9*a*d, c*c-3*b*d
		return q <= p && -q <= p && p <= r
	}
	middle := a*d - b*c
	return middle >= -(a-b)*(a-b)-a*c && middle <= (a+b)*(a+b)+a*c && d*d-a*a >= b*d-a*c
}

// smallForms are all forms with numbers of absolute values of at most n and a discriminant not 0.
func smallForms(n int64) []impl.Form {
	var all []impl.Form
	for _, numbers := range smallMatrices(n) {
		if f := impl.Form(numbers); discriminantByHand(f) != 0 {
			all = append(all, f)
		}
	}
	return all
}

// unitsWithin are all unit matrices with numbers of absolute values of at most n, ascending.
func unitsWithin(n int64) []impl.Matrix {
	return slices.DeleteFunc(smallMatrices(n), func(m impl.Matrix) bool {
		det := m[0]*m[3] - m[1]*m[2]
		return det != 1 && det != -1
	})
}

// scatteredForms are forms with numbers all over the range of the chapter, by a fixed rule.
func scatteredForms(count int) []impl.Form {
	all := []impl.Form{
		{1, 0, -1, 1}, {1, 1, -2, -1}, {1, 0, -3, -1}, {1, 0, 0, 1}, {0, 1, 1, 0}, {0, 1, 0, 50}, {0, 3, 0, 1},
		{6, -11, 6, -1}, {0, 49, -63, 20}, {12, 7, 1, 0}, {100, 100, 100, 100}, {100, 0, 0, -100},
		{-100, 99, -100, 99}, {100, 100, -100, -99}, {0, 1, -1, 100}, {1, 0, -36, -81}, {1, 20, 99, -10},
	}
	state := uint32(1342)
	for len(all) < count {
		var f impl.Form
		for i := range f {
			state = state*1664525 + 1013904223
			f[i] = int64(state>>16)%201 - 100
		}
		if discriminantByHand(f) != 0 {
			all = append(all, f)
		}
	}
	return all
}

func compareForms(f, g impl.Form) int { return slices.Compare(f[:], g[:]) }

func compareMatrices(m, n impl.Matrix) int { return slices.Compare(m[:], n[:]) }

func isStrictlyAscending[T any](list []T, compare func(T, T) int) bool {
	for i := 1; i < len(list); i++ {
		if compare(list[i-1], list[i]) >= 0 {
			return false
		}
	}
	return true
}

func wantForms(t *testing.T, what string, got []impl.Form, code int64, want []impl.Form, wantCode int64) {
	t.Helper()
	if !slices.Equal(got, want) || code != wantCode {
		t.Errorf("%s = %v, %d, want %v, %d", what, got, code, want, wantCode)
	}
}

func wantMatrices(t *testing.T, what string, got []impl.Matrix, code int64, want []impl.Matrix, wantCode int64) {
	t.Helper()
	if !slices.Equal(got, want) || code != wantCode {
		t.Errorf("%s = %v, %d, want %v, %d", what, got, code, want, wantCode)
	}
}

func wantBool(t *testing.T, what string, got bool, code int64, want bool, wantCode int64) {
	t.Helper()
	if got != want || code != wantCode {
		t.Errorf("%s = %v, %d, want %v, %d", what, got, code, want, wantCode)
	}
}

// wantCodeOfAll gives f to every function of one form, and f and g to those of two: the code is
// the one told, and all other results are zero values.
func wantCodeOfAll(t *testing.T, f, g impl.Form, want int64) {
	t.Helper()
	if f == g {
		reduced, code := impl.IsReduced(f)
		wantBool(t, "IsReduced", reduced, code, false, want)
		normal, code := impl.NormalForm(f)
		wantForm(t, "NormalForm", normal, code, impl.Form{}, want)
		forms, code := impl.ReducedForms(f)
		wantForms(t, "ReducedForms", forms, code, nil, want)
		m, code := impl.ReducingMatrix(f)
		wantMatrix(t, "ReducingMatrix", m, code, impl.Matrix{}, want)
		matrices, code := impl.AutomorphismsOf(f)
		wantMatrices(t, "AutomorphismsOf", matrices, code, nil, want)
	}
	same, code := impl.AreEquivalent(f, g)
	wantBool(t, "AreEquivalent", same, code, false, want)
	matrices, code := impl.MatricesBetween(f, g)
	wantMatrices(t, "MatricesBetween", matrices, code, nil, want)
}

func TestMaxReduced(t *testing.T) {
	if impl.MaxReduced != 100 {
		t.Errorf("MaxReduced = %d", impl.MaxReduced)
	}
}

// TestReductionErrors: ErrInvalid, then ErrRange, then ErrState, each over all arguments.
func TestReductionErrors(t *testing.T) {
	good, flat := impl.Form{1, 0, -1, 1}, impl.Form{1, 2, 1, 0}
	for i := range 4 {
		for _, n := range outside(1000) {
			invalid := impl.Form{}
			invalid[i] = n
			wantCodeOfAll(t, invalid, invalid, impl.ErrInvalid)
			for _, other := range []impl.Form{good, flat, {101, 0, 0, 0}, {101, 0, 0, 1}} {
				wantCodeOfAll(t, invalid, other, impl.ErrInvalid)
				wantCodeOfAll(t, other, invalid, impl.ErrInvalid)
			}
		}
		for _, n := range []int64{101, -101, 1000, -1000} {
			wide := impl.Form{1, 1, 1, 1}
			wide[i] = n
			wideAndFlat := impl.Form{}
			wideAndFlat[i] = n
			for _, f := range []impl.Form{wide, wideAndFlat} {
				wantCodeOfAll(t, f, f, impl.ErrRange)
				wantCodeOfAll(t, f, good, impl.ErrRange)
				wantCodeOfAll(t, good, f, impl.ErrRange)
				wantCodeOfAll(t, f, flat, impl.ErrRange)
				wantCodeOfAll(t, flat, f, impl.ErrRange)
			}
		}
	}
	for _, f := range []impl.Form{{}, flat, {1, 3, 3, 1}, {100, 0, 0, 0}, {0, 0, 0, -100}, {0, 100, 0, 0}, {0, 0, 1, 0}, {4, -4, 1, 0}} {
		wantCodeOfAll(t, f, f, impl.ErrState)
		wantCodeOfAll(t, f, good, impl.ErrState)
		wantCodeOfAll(t, good, f, impl.ErrState)
	}
}

func TestIsReducedAtTheEdges(t *testing.T) {
	cases := []struct {
		f    impl.Form
		want bool
	}{
		{impl.Form{1, 0, -1, 1}, false},
		{impl.Form{-1, -1, -2, -1}, true},
		// Positive discriminants: Q is P, or -P, or just beyond; P is R, or just beyond.
		{impl.Form{1, 1, -2, -1}, true},
		{impl.Form{-1, 1, 2, -1}, true},
		{impl.Form{0, 5, 5, -2}, true},
		{impl.Form{0, 5, -5, -2}, true},
		{impl.Form{0, 5, 6, -2}, false},
		{impl.Form{0, 5, -6, -2}, false},
		{impl.Form{0, 3, 0, -1}, true},
		{impl.Form{0, 3, 1, -1}, true},
		{impl.Form{0, 4, 0, -1}, false},
		{impl.Form{0, 100, 0, -33}, false},
		{impl.Form{0, 100, 0, -34}, true},
		{impl.Form{0, 1, 1, 0}, true},
		// Negative discriminants: 0 and A, B, C of the factor, with B = A, -A, or beyond, and A = C.
		{impl.Form{1, 0, 0, 1}, true},
		{impl.Form{0, 4, 4, 5}, true},
		{impl.Form{0, 4, -4, 5}, true},
		{impl.Form{0, 4, 5, 5}, false},
		{impl.Form{0, 4, -5, 5}, false},
		{impl.Form{0, 5, 0, 5}, true},
		{impl.Form{0, 6, 0, 5}, false},
		{impl.Form{0, -5, 5, -5}, true},
		{impl.Form{0, -6, 5, -5}, false},
		{impl.Form{100, 100, 100, 100}, true},
		{impl.Form{100, 100, 100, 99}, false},
		{impl.Form{100, 0, 0, -100}, true},
		{impl.Form{-99, -100, -100, -100}, true},
	}
	for _, c := range cases {
		got, code := impl.IsReduced(c.f)
		wantBool(t, "IsReduced", got, code, c.want, impl.ErrNone)
	}
}

func TestIsReducedByTheRule(t *testing.T) {
	for _, f := range append(smallForms(3), scatteredForms(2000)...) {
		got, code := impl.IsReduced(f)
		wantBool(t, "IsReduced", got, code, reducedByRule(f), impl.ErrNone)
	}
}

func TestNormalFormExamples(t *testing.T) {
	cases := []struct{ f, want impl.Form }{
		{impl.Form{1, 0, -1, 1}, impl.Form{-1, -1, -2, -1}},
		{impl.Form{-1, -1, -2, -1}, impl.Form{-1, -1, -2, -1}},
		{impl.Form{1, 1, -2, -1}, impl.Form{-1, -2, 1, 1}},
		{impl.Form{1, 0, -3, -1}, impl.Form{-1, -3, 0, 1}},
		{impl.Form{1, 0, 0, 1}, impl.Form{-2, -3, -3, -1}},
		{impl.Form{0, 1, 1, 0}, impl.Form{0, -1, -1, 0}},
		{impl.Form{12, 7, 1, 0}, impl.Form{0, -1, -1, 0}},
		{impl.Form{6, -11, 6, -1}, impl.Form{0, -1, 0, 1}},
		{impl.Form{0, 3, 0, 1}, impl.Form{-1, 0, -3, 0}},
		{impl.Form{0, 1, 0, 1}, impl.Form{-1, 0, -1, 0}},
		{impl.Form{100, 100, 100, 100}, impl.Form{-100, -100, -100, -100}},
		{impl.Form{100, 100, 100, 99}, impl.Form{-99, -100, -100, -100}},
		{impl.Form{100, 0, 0, -100}, impl.Form{-200, -300, -300, -100}},
		{impl.Form{1, 20, 99, -10}, impl.Form{0, -1, 0, 26}},
		{impl.Form{0, 2, 93, 81}, impl.Form{0, -2, -1, 1000}},
	}
	for _, c := range cases {
		got, code := impl.NormalForm(c.f)
		wantForm(t, "NormalForm", got, code, c.want, impl.ErrNone)
	}
}

// TestReducedBeyondTheLimit: where reduced forms have a number beyond MaxNumber, only the functions
// that would return such a form refuse.
func TestReducedBeyondTheLimit(t *testing.T) {
	up, down := impl.Matrix{0, 1, 1, 0}, impl.Matrix{-1, 0, 0, 1}
	for _, f := range []impl.Form{{0, 2, 93, 80}, {100, -100, -99, 99}, {87, 90, -96, -100}, {91, 100, -86, -96}, {0, 1, 100, 100}} {
		normal, code := impl.NormalForm(f)
		wantForm(t, "NormalForm", normal, code, impl.Form{}, impl.ErrLimit)
		forms, code := impl.ReducedForms(f)
		wantForms(t, "ReducedForms", forms, code, nil, impl.ErrLimit)
		reduced, code := impl.IsReduced(f)
		wantBool(t, "IsReduced", reduced, code, false, impl.ErrNone)
		m, code := impl.ReducingMatrix(f)
		det, _ := impl.DeterminantOf(m)
		if code != impl.ErrNone || det*det != 1 {
			t.Errorf("ReducingMatrix(%v) = %v, %d", f, m, code)
		}
		for _, unit := range []impl.Matrix{up, down} {
			g, _ := impl.ChangeForm(f, unit)
			same, code := impl.AreEquivalent(f, g)
			wantBool(t, "AreEquivalent", same, code, true, impl.ErrNone)
			same, code = impl.AreEquivalent(g, impl.Form{1, 0, -1, 1})
			wantBool(t, "AreEquivalent", same, code, false, impl.ErrNone)
			between, code := impl.MatricesBetween(f, g)
			if code != impl.ErrNone || !slices.Contains(between, unit) {
				t.Errorf("MatricesBetween(%v, %v) = %v, %d", f, g, between, code)
			}
		}
	}
	m, code := impl.ReducingMatrix(impl.Form{100, -100, -99, 99})
	wantMatrix(t, "ReducingMatrix", m, code, impl.Matrix{-1, 99, -1, 100}, impl.ErrNone)
	forms, code := impl.ReducedForms(impl.Form{0, 2, 93, 81})
	wantForms(t, "ReducedForms", forms, code, []impl.Form{{0, -2, -1, 1000}, {0, -2, 1, 1000}, {0, 2, -1, -1000}, {0, 2, 1, -1000}}, impl.ErrNone)
}

func TestReducedFormsExamples(t *testing.T) {
	cases := []struct {
		f    impl.Form
		want []impl.Form
	}{
		{impl.Form{1, 0, -1, 1}, []impl.Form{{-1, -1, -2, -1}, {-1, 1, -2, 1}, {1, -1, 2, -1}, {1, 1, 2, 1}}},
		{impl.Form{0, 1, 0, -1}, []impl.Form{{0, -1, 0, 1}, {0, 1, 0, -1}}},
		{impl.Form{0, 1, 0, 1}, []impl.Form{{-1, 0, -1, 0}, {0, -1, 0, -1}, {0, 1, 0, 1}, {1, 0, 1, 0}}},
		{impl.Form{1, 1, -2, -1}, []impl.Form{
			{-1, -2, 1, 1}, {-1, -1, 2, 1}, {-1, 1, 2, -1}, {-1, 2, 1, -1},
			{1, -2, -1, 1}, {1, -1, -2, 1}, {1, 1, -2, -1}, {1, 2, -1, -1},
		}},
		{impl.Form{1, 0, 0, 1}, []impl.Form{
			{-2, -3, -3, -1}, {-2, 3, -3, 1}, {-1, -3, -3, -2}, {-1, 0, 0, -1}, {-1, 0, 0, 1}, {-1, 3, -3, 2},
			{1, -3, 3, -2}, {1, 0, 0, -1}, {1, 0, 0, 1}, {1, 3, 3, 2}, {2, -3, 3, -1}, {2, 3, 3, 1},
		}},
	}
	for _, c := range cases {
		got, code := impl.ReducedForms(c.f)
		wantForms(t, "ReducedForms", got, code, c.want, impl.ErrNone)
	}
}

// TestClassesBySearch changes small forms by all unit matrices of a range, which reaches all their
// reduced forms, and compares these and the reducing matrices.
func TestClassesBySearch(t *testing.T) {
	units := unitsWithin(4)
	for _, f := range smallForms(2) {
		ways := map[impl.Form][]impl.Matrix{}
		for _, m := range units {
			if g, code := impl.ChangeForm(f, m); code == impl.ErrNone && reducedByRule(g) {
				ways[g] = append(ways[g], m)
			}
		}
		var want []impl.Form
		for g := range ways {
			want = append(want, g)
		}
		slices.SortFunc(want, compareForms)
		got, code := impl.ReducedForms(f)
		wantForms(t, "ReducedForms", got, code, want, impl.ErrNone)
		normal, code := impl.NormalForm(f)
		wantForm(t, "NormalForm", normal, code, want[0], impl.ErrNone)
		m, code := impl.ReducingMatrix(f)
		wantMatrix(t, "ReducingMatrix", m, code, ways[want[0]][0], impl.ErrNone)
		for _, g := range want {
			between, code := impl.MatricesBetween(f, g)
			wantMatrices(t, "MatricesBetween", between, code, ways[g], impl.ErrNone)
		}
	}
}

// TestNormalFormsAreReducedAndEquivalent is the promise 2 over the whole range of the chapter.
func TestNormalFormsAreReducedAndEquivalent(t *testing.T) {
	withinLimits := 0
	for _, f := range append(smallForms(2), scatteredForms(2000)...) {
		m, code := impl.ReducingMatrix(f)
		det, _ := impl.DeterminantOf(m)
		if code != impl.ErrNone || det*det != 1 {
			t.Fatalf("ReducingMatrix(%v) = %v, %d", f, m, code)
		}
		normal, code := impl.NormalForm(f)
		if code == impl.ErrLimit {
			continue
		}
		withinLimits++
		if code != impl.ErrNone || !reducedByRule(normal) {
			t.Fatalf("NormalForm(%v) = %v, %d", f, normal, code)
		}
		changed, code := impl.ChangeForm(f, m)
		wantForm(t, "ChangeForm by the reducing matrix", changed, code, normal, impl.ErrNone)
		forms, code := impl.ReducedForms(f)
		if code != impl.ErrNone || len(forms) == 0 || forms[0] != normal || !isStrictlyAscending(forms, compareForms) {
			t.Errorf("ReducedForms(%v) = %v, %d", f, forms, code)
		}
		for _, g := range forms {
			if !reducedByRule(g) || discriminantByHand(g) != discriminantByHand(f) {
				t.Errorf("ReducedForms(%v) has %v", f, g)
			}
			if !slices.Contains(forms, impl.Form{-g[0], -g[1], -g[2], -g[3]}) {
				t.Errorf("ReducedForms(%v) lacks the negative of %v", f, g)
			}
		}
		if reduced, _ := impl.IsReduced(f); reduced != slices.Contains(forms, f) {
			t.Errorf("IsReduced(%v) = %v, ReducedForms %v", f, reduced, forms)
		}
	}
	if withinLimits < 2000 {
		t.Errorf("only %d forms have a normal form within the limit", withinLimits)
	}
}

// TestEquivalentFormsAgree is the promise 12, and with it that matrices between forms change one
// to the other one.
func TestEquivalentFormsAgree(t *testing.T) {
	units := append(unitsWithin(2), impl.Matrix{3, 2, 4, 3}, impl.Matrix{5, 7, 2, 3}, impl.Matrix{1, 30, 0, -1}, impl.Matrix{1, 0, -7, 1})
	pairs := 0
	for _, f := range scatteredForms(300) {
		normal, code := impl.NormalForm(f)
		disc, _ := impl.DiscriminantOf(f)
		for _, m := range units {
			g, codeOfG := impl.ChangeForm(f, m)
			if codeOfG != impl.ErrNone || slices.Max(g[:]) > 100 || slices.Min(g[:]) < -100 {
				continue
			}
			pairs++
			other, otherCode := impl.NormalForm(g)
			wantForm(t, "NormalForm of an equivalent form", other, otherCode, normal, code)
			otherDisc, otherCode := impl.DiscriminantOf(g)
			wantNumber(t, "DiscriminantOf an equivalent form", otherDisc, otherCode, disc, impl.ErrNone)
			same, otherCode := impl.AreEquivalent(f, g)
			wantBool(t, "AreEquivalent", same, otherCode, true, impl.ErrNone)
			checkBetween(t, f, g, m)
		}
	}
	if pairs < 3000 {
		t.Errorf("only %d pairs", pairs)
	}
}

// checkBetween: m changes f to g.
func checkBetween(t *testing.T, f, g impl.Form, m impl.Matrix) {
	t.Helper()
	between, code := impl.MatricesBetween(f, g)
	if code == impl.ErrLimit && between == nil {
		return
	}
	if code != impl.ErrNone || !slices.Contains(between, m) || !isStrictlyAscending(between, compareMatrices) {
		t.Fatalf("MatricesBetween(%v, %v) = %v, %d, without %v", f, g, between, code, m)
	}
	for _, n := range between {
		det, _ := impl.DeterminantOf(n)
		changed, _ := impl.ChangeForm(f, n)
		if changed != g || det*det != 1 {
			t.Errorf("MatricesBetween(%v, %v) has %v", f, g, n)
		}
	}
	if own, code := impl.AutomorphismsOf(f); code == impl.ErrNone && len(own) != len(between) {
		t.Errorf("%v has %d automorphisms, but %d matrices to %v", f, len(own), len(between), g)
	}
}

// TestNotEquivalent has pairs of the same discriminant and content among them.
func TestNotEquivalent(t *testing.T) {
	pairs := [][2]impl.Form{
		{{1, 2, 3, 4}, {0, 1, 0, 50}},
		{{0, 1, 0, -9}, {0, 3, 2, 0}},
		{{1, 0, -1, 1}, {1, 1, -2, -1}},
		{{0, 1, 0, 1}, {0, 1, 0, -1}},
		{{1, 0, 0, 1}, {0, 3, 0, 1}},
		{{0, 1, 100, 100}, {0, 1, 99, 100}},
		{{1, 0, -1, 1}, {2, 0, -2, 2}},
	}
	for _, pair := range pairs {
		for _, p := range [][2]impl.Form{pair, {pair[1], pair[0]}} {
			same, code := impl.AreEquivalent(p[0], p[1])
			wantBool(t, "AreEquivalent", same, code, false, impl.ErrNone)
			between, code := impl.MatricesBetween(p[0], p[1])
			wantMatrices(t, "MatricesBetween", between, code, nil, impl.ErrNone)
		}
	}
}

func TestAutomorphismsExamples(t *testing.T) {
	one := impl.Matrix{1, 0, 0, 1}
	cases := []struct {
		f    impl.Form
		want []impl.Matrix
	}{
		{impl.Form{1, 0, -1, 1}, []impl.Matrix{one}},
		{impl.Form{100, 100, 100, 99}, []impl.Matrix{one}},
		{impl.Form{1, 0, 0, 1}, []impl.Matrix{{0, 1, 1, 0}, one}},
		{impl.Form{0, 1, 0, 50}, []impl.Matrix{{-1, 0, 0, 1}, one}},
		{impl.Form{0, 1, 100, 100}, []impl.Matrix{{-1, -100, 0, 1}, one}},
		{impl.Form{1, 0, -36, -81}, []impl.Matrix{one, {4, 15, -1, -4}}},
		{impl.Form{21, 90, 82, -32}, []impl.Matrix{one, {433, 992, -189, -433}}},
		{impl.Form{32, 82, -90, 21}, []impl.Matrix{{-433, 189, -992, 433}, one}},
		{impl.Form{1, 0, -3, -1}, []impl.Matrix{{-1, -1, 1, 0}, {0, 1, -1, -1}, one}},
		{impl.Form{0, 49, -63, 20}, []impl.Matrix{{-5, 3, -7, 4}, one, {4, -3, 7, -5}}},
		{impl.Form{0, 1, 1, 0}, []impl.Matrix{{-1, -1, 0, 1}, {-1, -1, 1, 0}, {0, 1, -1, -1}, {0, 1, 1, 0}, {1, 0, -1, -1}, one}},
		{impl.Form{12, 7, 1, 0}, []impl.Matrix{{-4, -1, 13, 3}, {-4, -1, 15, 4}, {1, 0, -7, -1}, one, {3, 1, -13, -4}, {3, 1, -8, -3}}},
	}
	for _, c := range cases {
		got, code := impl.AutomorphismsOf(c.f)
		wantMatrices(t, "AutomorphismsOf", got, code, c.want, impl.ErrNone)
	}
}

// TestAutomorphismsAreAGroup: they change the form to itself, and products and inverses are among
// them.
func TestAutomorphismsAreAGroup(t *testing.T) {
	for _, f := range append(smallForms(3), scatteredForms(500)...) {
		own, code := impl.AutomorphismsOf(f)
		if code == impl.ErrLimit && own == nil {
			continue
		}
		if code != impl.ErrNone || !slices.Contains(own, impl.Matrix{1, 0, 0, 1}) || !isStrictlyAscending(own, compareMatrices) {
			t.Fatalf("AutomorphismsOf(%v) = %v, %d", f, own, code)
		}
		for _, m := range own {
			changed, _ := impl.ChangeForm(f, m)
			inverse, code := impl.InverseMatrix(m)
			if changed != f || code != impl.ErrNone || !slices.Contains(own, inverse) {
				t.Errorf("AutomorphismsOf(%v) = %v, with %v", f, own, m)
			}
			for _, n := range own {
				if product, _ := impl.MultiplyMatrices(m, n); !slices.Contains(own, product) {
					t.Errorf("AutomorphismsOf(%v) = %v, without %v", f, own, product)
				}
			}
		}
	}
}

// TestMatricesBeyondTheLimit: forms with a matrix of numbers beyond MaxNumber between them are
// equivalent, but their matrices are refused, even if others are within the limit.
func TestMatricesBeyondTheLimit(t *testing.T) {
	for _, f := range []impl.Form{{55, 65, -77, -91}, {91, 77, -65, -55}, {1, 20, 99, -10}, {100, 89, -9, -16}} {
		own, code := impl.AutomorphismsOf(f)
		wantMatrices(t, "AutomorphismsOf", own, code, nil, impl.ErrLimit)
		reversed, _ := impl.ReverseForm(f)
		between, code := impl.MatricesBetween(f, reversed)
		wantMatrices(t, "MatricesBetween", between, code, nil, impl.ErrLimit)
		same, code := impl.AreEquivalent(f, reversed)
		wantBool(t, "AreEquivalent", same, code, true, impl.ErrNone)
	}
	// Changed by 0, -1, -1, 0 the first form is the second one; the other matrix is beyond the limit.
	between, code := impl.MatricesBetween(impl.Form{10, -63, 89, 33}, impl.Form{-33, -89, 63, -10})
	wantMatrices(t, "MatricesBetween", between, code, nil, impl.ErrLimit)
}

// TestResultsAreNew: a list that the caller changes is not the one of the next call.
func TestResultsAreNew(t *testing.T) {
	f := impl.Form{0, 1, 1, 0}
	forms, _ := impl.ReducedForms(f)
	own, _ := impl.AutomorphismsOf(f)
	firstForms, firstOwn := slices.Clone(forms), slices.Clone(own)
	forms[0][0], own[0][0] = math.MaxInt64, math.MaxInt64
	again, code := impl.ReducedForms(f)
	wantForms(t, "ReducedForms again", again, code, firstForms, impl.ErrNone)
	matrices, code := impl.AutomorphismsOf(f)
	wantMatrices(t, "AutomorphismsOf again", matrices, code, firstOwn, impl.ErrNone)
}
