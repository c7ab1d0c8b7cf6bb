package tests

import (
	"math"
	"math/big"
	"slices"
	"testing"

	"loop.example/g01342/impl"
)

// mixedForms are sample forms, scattered ones, and forms with numbers up to the limit of chapter 1,
// with discriminants of both signs and 0.
func mixedForms(count int) []impl.Form {
	all := append(sampleForms(), scatteredForms(count)...)
	for _, f := range scatteredForms(count) {
		all = append(all, impl.Form{10 * f[0], -10 * f[1], 10 * f[2], 10 * f[3]}, impl.Form{10 * f[3], f[2], 0, -10 * f[0]})
	}
	// Squares of linear forms times others, and third powers.
	return append(all, impl.Form{1, 2, 1, 0}, impl.Form{4, 0, -3, 1}, impl.Form{-250, 375, 0, -125}, impl.Form{8, -12, 6, -1}, impl.Form{125, 150, 60, 8})
}

// hessianByHand is the value of the Hessian from the second slopes of the form.
func hessianByHand(f impl.Form, x, y int64) int64 {
	xx, xy, yy := 6*f[0]*x+2*f[1]*y, 2*f[1]*x+2*f[2]*y, 2*f[2]*x+6*f[3]*y
	return (xy*xy - xx*yy) / 4
}

// covariantByHand is the value of the covariant from slopes of the form and of its Hessian, the
// latter ones being differences of values of the Hessian.
func covariantByHand(f impl.Form, x, y int64) int64 {
	first, second, _ := impl.SlopesAt(f, x, y)
	alongX := (hessianByHand(f, x+1, y) - hessianByHand(f, x-1, y)) / 2
	alongY := (hessianByHand(f, x, y+1) - hessianByHand(f, x, y-1)) / 2
	return first*alongY - second*alongX
}

// laplace is the determinant by minors of the first row.
func laplace(rows [][]int64) *big.Int {
	if len(rows) == 0 {
		return big.NewInt(1)
	}
	sum := new(big.Int)
	for i, n := range rows[0] {
		if n == 0 {
			continue
		}
		var minor [][]int64
		for _, row := range rows[1:] {
			minor = append(minor, slices.Concat(row[:i], row[i+1:]))
		}
		part := new(big.Int).Mul(big.NewInt(n), laplace(minor))
		if i%2 == 1 {
			part.Neg(part)
		}
		sum.Add(sum, part)
	}
	return sum
}

func resultantByHand(f, g impl.Form) *big.Int {
	return laplace([][]int64{
		{f[0], f[1], f[2], f[3], 0, 0}, {0, f[0], f[1], f[2], f[3], 0}, {0, 0, f[0], f[1], f[2], f[3]},
		{g[0], g[1], g[2], g[3], 0, 0}, {0, g[0], g[1], g[2], g[3], 0}, {0, 0, g[0], g[1], g[2], g[3]},
	})
}

// productOf is the form that is the product of three linear forms.
func productOf(k, l, m [2]int64) impl.Form {
	return impl.Form{
		k[0] * l[0] * m[0],
		k[1]*l[0]*m[0] + k[0]*l[1]*m[0] + k[0]*l[0]*m[1],
		k[0]*l[1]*m[1] + k[1]*l[0]*m[1] + k[1]*l[1]*m[0],
		k[1] * l[1] * m[1],
	}
}

func wantQuadratic(t *testing.T, what string, got impl.Quadratic, code int64, want impl.Quadratic, wantCode int64) {
	t.Helper()
	if got != want || code != wantCode {
		t.Errorf("%s = %v, %d, want %v, %d", what, got, code, want, wantCode)
	}
}

func wantList(t *testing.T, what string, got []int64, code int64, want []int64, wantCode int64) {
	t.Helper()
	if !slices.Equal(got, want) || code != wantCode {
		t.Errorf("%s = %v, %d, want %v, %d", what, got, code, want, wantCode)
	}
}

func TestLimitsOfCovariants(t *testing.T) {
	if impl.MaxSyzygy != 30 || impl.MaxResultant != 100 {
		t.Errorf("limits %d, %d", impl.MaxSyzygy, impl.MaxResultant)
	}
}

func TestHessianOf(t *testing.T) {
	cases := []struct {
		f       impl.Form
		want    impl.Quadratic
		content int64
	}{
		{impl.Form{1, 0, -1, 1}, impl.Quadratic{3, -9, 1}, 1},
		{impl.Form{1, 2, 3, 4}, impl.Quadratic{-5, -30, -15}, 5},
		{impl.Form{1, 1, -2, -1}, impl.Quadratic{7, 7, 7}, 7},
		{impl.Form{1, 0, 0, 1}, impl.Quadratic{0, -9, 0}, 9},
		{impl.Form{0, 1, 1, 0}, impl.Quadratic{1, 1, 1}, 1},
		{impl.Form{0, 6, 0, 0}, impl.Quadratic{36, 0, 0}, 36},
		{impl.Form{0, 0, -6, 0}, impl.Quadratic{0, 0, 36}, 36},
		{impl.Form{4, 2, 0, 0}, impl.Quadratic{4, 0, 0}, 4},
		{impl.Form{10, 0, -20, 0}, impl.Quadratic{600, 0, 400}, 200},
		{impl.Form{1000, 1000, 1000, -1000}, impl.Quadratic{-2000000, 10000000, 4000000}, 2000000},
		{impl.Form{-1000, -1000, 1000, 1000}, impl.Quadratic{4000000, 8000000, 4000000}, 4000000},
		{impl.Form{1000, 1000, 1000, 1000}, impl.Quadratic{-2000000, -8000000, -2000000}, 2000000},
		{impl.Form{1000, 999, -1000, 1}, impl.Quadratic{3998001, -1008000, 997003}, 7},
		// The Hessian is 0 for third powers of linear forms, and for 0.
		{impl.Form{}, impl.Quadratic{}, 0},
		{impl.Form{1, 3, 3, 1}, impl.Quadratic{}, 0},
		{impl.Form{-8, 12, -6, 1}, impl.Quadratic{}, 0},
		{impl.Form{1000, 0, 0, 0}, impl.Quadratic{}, 0},
		{impl.Form{0, 0, 0, -1000}, impl.Quadratic{}, 0},
		{impl.Form{125, -750, 0, 0}, impl.Quadratic{562500, 0, 0}, 562500},
		{impl.Form{1000, -300, 30, -1}, impl.Quadratic{}, 0},
	}
	for _, c := range cases {
		q, code := impl.HessianOf(c.f)
		wantQuadratic(t, "HessianOf", q, code, c.want, impl.ErrNone)
		n, code := impl.HessianContent(c.f)
		wantNumber(t, "HessianContent", n, code, c.content, impl.ErrNone)
	}
	for _, f := range mixedForms(300) {
		q, code := impl.HessianOf(f)
		want := impl.Quadratic{hessianByHand(f, 1, 0), hessianByHand(f, 1, 1) - hessianByHand(f, 1, 0) - hessianByHand(f, 0, 1), hessianByHand(f, 0, 1)}
		wantQuadratic(t, "HessianOf", q, code, want, impl.ErrNone)
		content := new(big.Int)
		for _, n := range want {
			content.GCD(nil, nil, content, new(big.Int).Abs(big.NewInt(n)))
		}
		n, code := impl.HessianContent(f)
		wantNumber(t, "HessianContent", n, code, content.Int64(), impl.ErrNone)
	}
}

// TestDiscriminantsOfHessians is the first part of the promise 3, over forms of all kinds.
func TestDiscriminantsOfHessians(t *testing.T) {
	var signs [3]int
	for _, f := range mixedForms(2000) {
		disc, _ := impl.DiscriminantOf(f)
		switch {
		case disc < 0:
			signs[0]++
		case disc == 0:
			signs[1]++
		default:
			signs[2]++
		}
		q, _ := impl.HessianOf(f)
		n, code := impl.QuadraticDiscriminant(q)
		wantNumber(t, "discriminant of the Hessian", n, code, -3*disc, impl.ErrNone)
		definite, code := impl.IsDefinite(q)
		wantBool(t, "IsDefinite of the Hessian", definite, code, disc > 0, impl.ErrNone)
	}
	if slices.Min(signs[:]) < 5 {
		t.Errorf("discriminants with signs %v", signs)
	}
}

func TestCovariantOf(t *testing.T) {
	cases := []struct {
		f    impl.Form
		want []int64
	}{
		{impl.Form{1, 0, -1, 1}, []int64{-27, 18, -27, 25}},
		{impl.Form{1, 0, 0, 1}, []int64{-27, 0, 0, 27}},
		{impl.Form{0, 1, 1, 0}, []int64{-2, -3, 3, 2}},
		{impl.Form{1, 2, 3, 4}, []int64{-70, -90, 90, 270}},
		{impl.Form{0, 1, 0, 0}, []int64{-2, 0, 0, 0}},
		{impl.Form{0, 0, 1, 0}, []int64{0, 0, 0, 2}},
		{impl.Form{}, []int64{0, 0, 0, 0}},
		{impl.Form{1, 3, 3, 1}, []int64{0, 0, 0, 0}},
		{impl.Form{1000, 1000, 1000, -1000}, []int64{34000000000, 42000000000, -6000000000, 38000000000}},
	}
	for _, c := range cases {
		got, code := impl.CovariantOf(c.f)
		wantList(t, "CovariantOf", got, code, c.want, impl.ErrNone)
	}
	for _, f := range mixedForms(300) {
		got, code := impl.CovariantOf(f)
		if len(got) != 4 || code != impl.ErrNone {
			t.Fatalf("CovariantOf(%v) = %v, %d", f, got, code)
		}
		for _, at := range [][2]int64{{0, 0}, {1, 0}, {0, 1}, {1, 1}, {1, -1}, {2, -5}, {-99, 100}, {-100, -100}, {100, -100}, {100, 100}} {
			want := covariantByHand(f, at[0], at[1])
			n, code := impl.CovariantAt(f, at[0], at[1])
			wantNumber(t, "CovariantAt", n, code, want, impl.ErrNone)
			if sum := valueByHand(impl.Form(got), at[0], at[1]); sum != want {
				t.Errorf("CovariantOf(%v) = %v, at %v %d, want %d", f, got, at, sum, want)
			}
		}
	}
}

// TestCovariantOfChanged: the covariant is changed as the form is, and multiplied by the third power
// of the determinant.
func TestCovariantOfChanged(t *testing.T) {
	for _, m := range smallMatrices(2) {
		det := m[0]*m[3] - m[1]*m[2]
		for _, f := range sampleForms() {
			g, code := impl.ChangeForm(f, m)
			if code != impl.ErrNone {
				continue
			}
			for _, at := range [][2]int64{{1, 0}, {0, 1}, {1, 1}, {3, -2}} {
				x, y := at[0], at[1]
				before, _ := impl.CovariantAt(f, m[0]*x+m[1]*y, m[2]*x+m[3]*y)
				after, code := impl.CovariantAt(g, x, y)
				wantNumber(t, "CovariantAt changed", after, code, det*det*det*before, impl.ErrNone)
			}
		}
	}
}

// TestHessiansOfChangedForms is the promise 16, and its extension to all matrices: the changed
// Hessian is multiplied by the square of the determinant.
func TestHessiansOfChangedForms(t *testing.T) {
	matrices := append(smallMatrices(2), impl.Matrix{3, 2, 4, 3}, impl.Matrix{5, 7, 2, 3}, impl.Matrix{1, 30, 0, -1}, impl.Matrix{1, 0, -7, 1}, impl.Matrix{4, 15, -1, -4})
	var units, others int
	for _, m := range matrices {
		det, _ := impl.DeterminantOf(m)
		for _, f := range mixedForms(100) {
			g, code := impl.ChangeForm(f, m)
			if code != impl.ErrNone {
				continue
			}
			before, _ := impl.HessianOf(f)
			want, wantCode := impl.ChangeQuadratic(before, m)
			if det*det == 1 {
				units++
			} else {
				others++
			}
			for i := range want {
				want[i] *= det * det
			}
			after, code := impl.HessianOf(g)
			wantQuadratic(t, "HessianOf a changed form", after, code, want, wantCode)
		}
	}
	if units < 5000 || others < 5000 {
		t.Errorf("only %d forms changed by unit matrices, %d by others", units, others)
	}
	// Unit matrices with the number 1000.
	for _, m := range []impl.Matrix{{1, 1000, 0, 1}, {-1, 0, 0, 1}, {1, -1000, 0, -1}} {
		f := impl.Form{0, 0, 1, -1000}
		g, code := impl.ChangeForm(f, m)
		if code != impl.ErrNone {
			t.Fatalf("ChangeForm(%v, %v): code %d", f, m, code)
		}
		before, _ := impl.HessianOf(f)
		want, wantCode := impl.ChangeQuadratic(before, m)
		after, code := impl.HessianOf(g)
		wantQuadratic(t, "HessianOf a form changed by 1000", after, code, want, wantCode)
	}
}

func TestIsQuadratic(t *testing.T) {
	for i := range 3 {
		for _, n := range []int64{0, 1, -1, 1001, 1000000000000, -1000000000000} {
			q := impl.Quadratic{}
			q[i] = n
			if !impl.IsQuadratic(q) {
				t.Errorf("%v is refused", q)
			}
		}
		for _, n := range outside(1000000000000) {
			q := impl.Quadratic{}
			q[i] = n
			if impl.IsQuadratic(q) {
				t.Errorf("%v is accepted", q)
			}
		}
	}
}

func TestQuadraticAt(t *testing.T) {
	const most = 1000000000000
	cases := []struct {
		q    impl.Quadratic
		x, y int64
		want int64
	}{
		{impl.Quadratic{3, -9, 1}, 1, 1, -5},
		{impl.Quadratic{3, -9, 1}, 2, -3, 75},
		{impl.Quadratic{3, -9, 1}, 0, 0, 0},
		{impl.Quadratic{3, -9, 1}, 1, 0, 3},
		{impl.Quadratic{3, -9, 1}, 0, -1, 1},
		{impl.Quadratic{}, 100, 100, 0},
		{impl.Quadratic{most, most, most}, 100, 100, 30000 * most},
		{impl.Quadratic{most, -most, most}, -100, 100, 30000 * most},
		{impl.Quadratic{-most, most, -most}, 100, -100, -30000 * most},
	}
	for _, c := range cases {
		n, code := impl.QuadraticAt(c.q, c.x, c.y)
		wantNumber(t, "QuadraticAt", n, code, c.want, impl.ErrNone)
	}
}

func TestQuadraticDiscriminant(t *testing.T) {
	const most = 1000000000
	cases := []struct {
		q    impl.Quadratic
		want int64
		code int64
	}{
		{impl.Quadratic{3, -9, 1}, 69, impl.ErrNone},
		{impl.Quadratic{7, 7, 7}, -147, impl.ErrNone},
		{impl.Quadratic{1, 2, 1}, 0, impl.ErrNone},
		{impl.Quadratic{}, 0, impl.ErrNone},
		{impl.Quadratic{2, 1, -5}, 41, impl.ErrNone},
		{impl.Quadratic{most, most, -most}, 5 * most * most, impl.ErrNone},
		{impl.Quadratic{-most, -most, most}, 5 * most * most, impl.ErrNone},
		{impl.Quadratic{most, 0, most}, -4 * most * most, impl.ErrNone},
		{impl.Quadratic{most + 1, 0, 0}, 0, impl.ErrLimit},
		{impl.Quadratic{0, most + 1, 0}, 0, impl.ErrLimit},
		{impl.Quadratic{1, 1, -most - 1}, 0, impl.ErrLimit},
		{impl.Quadratic{1000 * most, 1000 * most, 1000 * most}, 0, impl.ErrLimit},
	}
	for _, c := range cases {
		n, code := impl.QuadraticDiscriminant(c.q)
		wantNumber(t, "QuadraticDiscriminant", n, code, c.want, c.code)
	}
}

func TestChangeQuadratic(t *testing.T) {
	const most = 1000000000000
	one := impl.Matrix{1, 0, 0, 1}
	ends := impl.Matrix{1000, 1000, 1000, 1000}
	cases := []struct {
		q    impl.Quadratic
		m    impl.Matrix
		want impl.Quadratic
		code int64
	}{
		{impl.Quadratic{3, -9, 1}, impl.Matrix{1, 1, 0, 1}, impl.Quadratic{3, -3, -5}, impl.ErrNone},
		{impl.Quadratic{3, -9, 1}, impl.Matrix{0, 1, 1, 0}, impl.Quadratic{1, -9, 3}, impl.ErrNone},
		{impl.Quadratic{3, -9, 1}, impl.Matrix{2, 3, 5, 7}, impl.Quadratic{-53, -155, -113}, impl.ErrNone},
		{impl.Quadratic{3, -9, 1}, impl.Matrix{}, impl.Quadratic{}, impl.ErrNone},
		{impl.Quadratic{}, ends, impl.Quadratic{}, impl.ErrNone},
		{impl.Quadratic{most, -most, most}, one, impl.Quadratic{most, -most, most}, impl.ErrNone},
		{impl.Quadratic{1, -2, 1}, ends, impl.Quadratic{}, impl.ErrNone},
		// Each number of the result at the limit, and then it alone beyond.
		{impl.Quadratic{1000000, 0, 0}, impl.Matrix{1000, 0, 0, 1}, impl.Quadratic{most, 0, 0}, impl.ErrNone},
		{impl.Quadratic{most - 1, 0, 1}, impl.Matrix{1, 0, 1, 0}, impl.Quadratic{most, 0, 0}, impl.ErrNone},
		{impl.Quadratic{most, 0, 1}, impl.Matrix{1, 0, 1, 0}, impl.Quadratic{}, impl.ErrLimit},
		{impl.Quadratic{-most, 0, -1}, impl.Matrix{1, 0, 1, 0}, impl.Quadratic{}, impl.ErrLimit},
		{impl.Quadratic{2 - most, most - 2, 1}, impl.Matrix{1, 0, 1, 1}, impl.Quadratic{1, most, 1}, impl.ErrNone},
		{impl.Quadratic{2 - most, most - 1, 1}, impl.Matrix{1, 0, 1, 1}, impl.Quadratic{}, impl.ErrLimit},
		{impl.Quadratic{most - 2, 1 - most, -1}, impl.Matrix{1, 0, 1, 1}, impl.Quadratic{}, impl.ErrLimit},
		{impl.Quadratic{0, 0, -1000000}, impl.Matrix{1, 0, 0, 1000}, impl.Quadratic{0, 0, -most}, impl.ErrNone},
		{impl.Quadratic{most, 0, 1}, impl.Matrix{0, 1, 0, 1}, impl.Quadratic{}, impl.ErrLimit},
		{impl.Quadratic{-most, 0, -1}, impl.Matrix{0, 1, 0, 1}, impl.Quadratic{}, impl.ErrLimit},
		// The greatest numbers that may come out, beyond 2^62.
		{impl.Quadratic{most, most, most}, ends, impl.Quadratic{}, impl.ErrLimit},
		{impl.Quadratic{-most, -most, -most}, ends, impl.Quadratic{}, impl.ErrLimit},
		{impl.Quadratic{most, -most, most}, impl.Matrix{1000, -1000, -1000, 1000}, impl.Quadratic{}, impl.ErrLimit},
		{impl.Quadratic{most, -most, most}, impl.Matrix{1, 1, 1, 1}, impl.Quadratic{}, impl.ErrLimit},
	}
	for _, c := range cases {
		got, code := impl.ChangeQuadratic(c.q, c.m)
		wantQuadratic(t, "ChangeQuadratic", got, code, c.want, c.code)
	}
}

// TestChangeQuadraticHasTheValues: the changed quadratic form has the values at the places changed,
// and unit matrices and their inverses lead back.
func TestChangeQuadraticHasTheValues(t *testing.T) {
	for _, m := range append(smallMatrices(2), impl.Matrix{7, -5, 11, 3}, impl.Matrix{0, 33, -30, 1}) {
		for _, q := range []impl.Quadratic{{3, -9, 1}, {1, 1, 6}, {0, 7, 0}, {-5, 4, 2}, {90000000000, -80000000000, 70000000001}} {
			changed, code := impl.ChangeQuadratic(q, m)
			if code == impl.ErrLimit && changed == (impl.Quadratic{}) && q[0] == 90000000000 {
				continue
			}
			for _, at := range [][2]int64{{1, 0}, {0, 1}, {1, 1}, {2, -1}} {
				x, y := at[0], at[1]
				want, _ := impl.QuadraticAt(q, m[0]*x+m[1]*y, m[2]*x+m[3]*y)
				n, valueCode := impl.QuadraticAt(changed, x, y)
				if n != want || valueCode != impl.ErrNone || code != impl.ErrNone {
					t.Errorf("ChangeQuadratic(%v, %v) = %v, %d, at %v %d, want %d", q, m, changed, code, at, n, want)
				}
			}
			if inverse, code := impl.InverseMatrix(m); code == impl.ErrNone {
				back, code := impl.ChangeQuadratic(changed, inverse)
				wantQuadratic(t, "ChangeQuadratic and back", back, code, q, impl.ErrNone)
			}
		}
	}
}

// TestSyzygyHolds is the second part of the promise 3, at all places, with the three numbers taken
// from the other functions.
func TestSyzygyHolds(t *testing.T) {
	forms := append(smallForms(1), impl.Form{}, impl.Form{1, 2, 1, 0}, impl.Form{1, 3, 3, 1}, impl.Form{-8, 12, -6, 1}, impl.Form{4, 0, -3, 1})
	for _, f := range scatteredForms(200) {
		forms = append(forms, impl.Form{f[0] % 31, f[1] % 31, f[2] % 31, f[3] % 31})
	}
	for _, ends := range smallMatrices(1) {
		forms = append(forms, impl.Form{30 * ends[0], 30 * ends[1], 30 * ends[2], 30 * ends[3]})
	}
	for _, f := range forms {
		disc := discriminantByHand(f)
		for x := int64(-3); x <= 3; x++ {
			for y := int64(-3); y <= 3; y++ {
				h, g, n := hessianByHand(f, x, y), covariantByHand(f, x, y), valueByHand(f, x, y)
				got, code := impl.SyzygyAt(f, x, y)
				wantList(t, "SyzygyAt", got, code, []int64{4 * h * h * h, g * g, 27 * disc * n * n}, impl.ErrNone)
				if len(got) == 3 && got[0] != got[1]+got[2] {
					t.Errorf("SyzygyAt(%v, %d, %d) = %v", f, x, y, got)
				}
			}
		}
	}
	cases := []struct {
		f    impl.Form
		x, y int64
		want []int64
	}{
		{impl.Form{1, 0, -1, 1}, 1, 1, []int64{-500, 121, -621}},
		{impl.Form{1, 0, 0, 1}, 1, 0, []int64{0, 729, -729}},
		{impl.Form{0, 1, 1, 0}, 1, 1, []int64{108, 0, 108}},
		{impl.Form{1, 2, 1, 0}, 1, 0, []int64{4, 4, 0}},
		{impl.Form{1, 3, 3, 1}, 3, 3, []int64{0, 0, 0}},
		{impl.Form{1, 0, -1, 1}, 0, 0, []int64{0, 0, 0}},
		{impl.Form{30, 30, -30, -30}, 3, 3, []int64{8707129344000000, 8707129344000000, 0}},
	}
	for _, c := range cases {
		got, code := impl.SyzygyAt(c.f, c.x, c.y)
		wantList(t, "SyzygyAt", got, code, c.want, impl.ErrNone)
	}
}

func TestPairingOf(t *testing.T) {
	cases := []struct {
		f, g impl.Form
		want int64
	}{
		{impl.Form{1, 0, -1, 1}, impl.Form{1, 1, 1, 1}, -1},
		{impl.Form{1, 0, 0, 0}, impl.Form{0, 0, 0, 1}, 3},
		{impl.Form{0, 1, 0, 0}, impl.Form{0, 0, 1, 0}, -1},
		{impl.Form{0, 0, 1, 0}, impl.Form{0, 1, 0, 0}, 1},
		{impl.Form{0, 0, 0, 1}, impl.Form{1, 0, 0, 0}, -3},
		{impl.Form{2, 3, 5, 7}, impl.Form{11, 13, 17, 19}, -103},
		{impl.Form{1000, 1000, 1000, 1000}, impl.Form{-1000, 1000, -1000, 1000}, 8000000},
		{impl.Form{}, impl.Form{1000, 1000, 1000, 1000}, 0},
	}
	for _, c := range cases {
		n, code := impl.PairingOf(c.f, c.g)
		wantNumber(t, "PairingOf", n, code, c.want, impl.ErrNone)
		n, code = impl.PairingOf(c.g, c.f)
		wantNumber(t, "PairingOf in the other order", n, code, -c.want, impl.ErrNone)
		n, code = impl.PairingOf(c.f, c.f)
		wantNumber(t, "PairingOf a form and itself", n, code, 0, impl.ErrNone)
	}
	// The pairing is multiplied by the third power of the determinant.
	f, g := impl.Form{2, -3, 5, -7}, impl.Form{-1, 4, 6, 9}
	before, _ := impl.PairingOf(f, g)
	for _, m := range smallMatrices(2) {
		changed, code := impl.ChangeForm(f, m)
		other, otherCode := impl.ChangeForm(g, m)
		if code != impl.ErrNone || otherCode != impl.ErrNone {
			t.Fatalf("ChangeForm by %v: codes %d, %d", m, code, otherCode)
		}
		det := m[0]*m[3] - m[1]*m[2]
		n, code := impl.PairingOf(changed, other)
		wantNumber(t, "PairingOf changed forms", n, code, det*det*det*before, impl.ErrNone)
	}
}

func TestResultantOf(t *testing.T) {
	cases := []struct {
		f, g impl.Form
		want int64
	}{
		{impl.Form{1, 0, 0, 0}, impl.Form{0, 0, 0, 1}, 1},
		{impl.Form{0, 0, 0, 1}, impl.Form{1, 0, 0, 0}, -1},
		{impl.Form{1, 0, -1, 1}, impl.Form{1, 0, -1, 1}, 0},
		{impl.Form{1, 0, 0, -1}, impl.Form{1, 0, 0, 1}, 8},
		{impl.Form{1, 0, -1, 1}, impl.Form{1, 1, 1, 1}, -5},
		{impl.Form{1, 2, 3, 4}, impl.Form{5, 6, 7, 8}, -1024},
		{impl.Form{}, impl.Form{1, 2, 3, 4}, 0},
		{impl.Form{100, 0, 0, 0}, impl.Form{0, 0, 0, 100}, 1000000000000},
		{impl.Form{100, 100, 100, -100}, impl.Form{100, -100, 100, 100}, 32000000000000},
		{impl.Form{-100, 100, 100, 100}, impl.Form{100, 100, -100, 100}, -32000000000000},
	}
	for _, c := range cases {
		if byHand := resultantByHand(c.f, c.g); byHand.Cmp(big.NewInt(c.want)) != 0 {
			t.Errorf("the resultant of %v and %v is %v, not %d", c.f, c.g, byHand, c.want)
		}
		n, code := impl.ResultantOf(c.f, c.g)
		wantNumber(t, "ResultantOf", n, code, c.want, impl.ErrNone)
	}
	forms := append(scatteredForms(60), impl.Form{}, impl.Form{1, 3, 3, 1}, impl.Form{100, -100, 100, 100}, impl.Form{-100, 100, 100, -100})
	for _, f := range forms {
		for _, g := range forms {
			n, code := impl.ResultantOf(f, g)
			if resultantByHand(f, g).Cmp(big.NewInt(n)) != 0 || code != impl.ErrNone {
				t.Errorf("ResultantOf(%v, %v) = %d, %d", f, g, n, code)
			}
			back, code := impl.ResultantOf(g, f)
			wantNumber(t, "ResultantOf in the other order", back, code, -n, impl.ErrNone)
		}
	}
}

// TestResultantOfProducts: the resultant of products of linear forms is the product of their
// determinants, and 0 if and only if there is a common factor.
func TestResultantOfProducts(t *testing.T) {
	lines := [][2]int64{{1, 0}, {0, 1}, {1, 1}, {2, -1}, {-1, 3}, {0, 0}}
	var products [][3][2]int64
	for _, k := range lines {
		for _, l := range lines {
			for _, m := range lines {
				products = append(products, [3][2]int64{k, l, m})
			}
		}
	}
	for _, first := range products {
		f := productOf(first[0], first[1], first[2])
		for _, second := range products {
			g := productOf(second[0], second[1], second[2])
			want := int64(1)
			for _, k := range first {
				for _, l := range second {
					want *= k[0]*l[1] - k[1]*l[0]
				}
			}
			n, code := impl.ResultantOf(f, g)
			wantNumber(t, "ResultantOf products", n, code, want, impl.ErrNone)
		}
	}
	// Without linear factors, x x + y y is common.
	n, code := impl.ResultantOf(impl.Form{1, 2, 1, 2}, impl.Form{3, -1, 3, -1})
	wantNumber(t, "ResultantOf forms with a common factor", n, code, 0, impl.ErrNone)
	n, code = impl.ResultantOf(impl.Form{100, 50, 100, 50}, impl.Form{-77, 99, -77, 99})
	wantNumber(t, "ResultantOf forms with a common factor", n, code, 0, impl.ErrNone)
}

// TestIsDefiniteBySearch looks at the values of small quadratic forms at places.
func TestIsDefiniteBySearch(t *testing.T) {
	for p := int64(-4); p <= 4; p++ {
		for q := int64(-8); q <= 8; q++ {
			for r := int64(-4); r <= 4; r++ {
				var above, below, zero bool
				for x := int64(-9); x <= 9; x++ {
					for y := int64(-9); y <= 9; y++ {
						n := p*x*x + q*x*y + r*y*y
						above, below, zero = above || n > 0, below || n < 0, zero || n == 0 && (x != 0 || y != 0)
					}
				}
				got, code := impl.IsDefinite(impl.Quadratic{p, q, r})
				wantBool(t, "IsDefinite", got, code, above != below && !zero, impl.ErrNone)
			}
		}
	}
}

func TestIsDefinite(t *testing.T) {
	const most = 1000000000
	cases := []struct {
		q    impl.Quadratic
		want bool
		code int64
	}{
		{impl.Quadratic{7, 7, 7}, true, impl.ErrNone},
		{impl.Quadratic{-7, 7, -7}, true, impl.ErrNone},
		{impl.Quadratic{3, -9, 1}, false, impl.ErrNone},
		{impl.Quadratic{1, 2, 1}, false, impl.ErrNone},
		{impl.Quadratic{1, 0, 0}, false, impl.ErrNone},
		{impl.Quadratic{}, false, impl.ErrNone},
		{impl.Quadratic{most, most, most}, true, impl.ErrNone},
		{impl.Quadratic{-most, -most, -most}, true, impl.ErrNone},
		{impl.Quadratic{most, most, -most}, false, impl.ErrNone},
		{impl.Quadratic{1, most, 1}, false, impl.ErrNone},
		{impl.Quadratic{250000000, most, most}, false, impl.ErrNone},
		{impl.Quadratic{250000001, most, most}, true, impl.ErrNone},
		{impl.Quadratic{most + 1, 0, 1}, false, impl.ErrLimit},
		{impl.Quadratic{1, most + 1, 1}, false, impl.ErrLimit},
		{impl.Quadratic{1, 0, most + 1}, false, impl.ErrLimit},
		{impl.Quadratic{-1, 0, -most - 1}, false, impl.ErrLimit},
	}
	for _, c := range cases {
		got, code := impl.IsDefinite(c.q)
		wantBool(t, "IsDefinite", got, code, c.want, c.code)
	}
}

// wantInvalidForm gives something that is no form to each function that takes one form, with places
// out of range as well, and with a good or a bad second form to those that take two.
func wantInvalidForm(t *testing.T, bad impl.Form) {
	t.Helper()
	q, code := impl.HessianOf(bad)
	wantQuadratic(t, "HessianOf", q, code, impl.Quadratic{}, impl.ErrInvalid)
	n, code := impl.HessianContent(bad)
	wantNumber(t, "HessianContent", n, code, 0, impl.ErrInvalid)
	list, code := impl.CovariantOf(bad)
	wantList(t, "CovariantOf", list, code, nil, impl.ErrInvalid)
	for _, at := range [][2]int64{{1, 1}, {101, 0}, {0, math.MinInt64}} {
		n, code = impl.CovariantAt(bad, at[0], at[1])
		wantNumber(t, "CovariantAt", n, code, 0, impl.ErrInvalid)
		list, code = impl.SyzygyAt(bad, at[0], at[1])
		wantList(t, "SyzygyAt", list, code, nil, impl.ErrInvalid)
	}
	for _, other := range []impl.Form{{1, 0, -1, 1}, {101, 0, 0, 0}, {1000, 1000, 1000, 1000}, bad} {
		for _, pair := range [][2]impl.Form{{bad, other}, {other, bad}} {
			n, code = impl.PairingOf(pair[0], pair[1])
			wantNumber(t, "PairingOf", n, code, 0, impl.ErrInvalid)
			n, code = impl.ResultantOf(pair[0], pair[1])
			wantNumber(t, "ResultantOf", n, code, 0, impl.ErrInvalid)
		}
	}
}

func TestInvalidForms(t *testing.T) {
	for i := range 4 {
		for _, n := range outside(1000) {
			bad := impl.Form{101, 0, 0, 1000}
			bad[i] = n
			wantInvalidForm(t, bad)
		}
	}
}

func TestInvalidQuadratics(t *testing.T) {
	const most = 1000000000000
	ends := impl.Matrix{1000, 1000, 1000, 1000}
	for i := range 3 {
		for _, n := range outside(most) {
			bad := impl.Quadratic{most, most, most}
			bad[i] = n
			for _, at := range [][2]int64{{1, 1}, {101, 0}, {0, math.MinInt64}} {
				n, code := impl.QuadraticAt(bad, at[0], at[1])
				wantNumber(t, "QuadraticAt", n, code, 0, impl.ErrInvalid)
			}
			n, code := impl.QuadraticDiscriminant(bad)
			wantNumber(t, "QuadraticDiscriminant", n, code, 0, impl.ErrInvalid)
			definite, code := impl.IsDefinite(bad)
			wantBool(t, "IsDefinite", definite, code, false, impl.ErrInvalid)
			for _, m := range []impl.Matrix{{}, {1, 0, 0, 1}, ends, {1001, 0, 0, 1}} {
				q, code := impl.ChangeQuadratic(bad, m)
				wantQuadratic(t, "ChangeQuadratic", q, code, impl.Quadratic{}, impl.ErrInvalid)
			}
		}
	}
	for i := range 4 {
		for _, n := range outside(1000) {
			bad := ends
			bad[i] = n
			for _, q := range []impl.Quadratic{{}, {1, 1, 1}, {most, most, most}} {
				changed, code := impl.ChangeQuadratic(q, bad)
				wantQuadratic(t, "ChangeQuadratic", changed, code, impl.Quadratic{}, impl.ErrInvalid)
			}
		}
	}
}

func TestRangesOfCovariants(t *testing.T) {
	f, q := impl.Form{1, 0, -1, 1}, impl.Quadratic{3, -9, 1}
	for _, far := range outside(100) {
		for _, at := range [][2]int64{{far, 0}, {0, far}, {far, 100}, {-100, far}} {
			n, code := impl.CovariantAt(f, at[0], at[1])
			wantNumber(t, "CovariantAt", n, code, 0, impl.ErrRange)
			n, code = impl.QuadraticAt(q, at[0], at[1])
			wantNumber(t, "QuadraticAt", n, code, 0, impl.ErrRange)
		}
	}
	for _, far := range outside(3) {
		for _, at := range [][2]int64{{far, 0}, {0, far}, {far, 3}, {-3, far}} {
			list, code := impl.SyzygyAt(f, at[0], at[1])
			wantList(t, "SyzygyAt", list, code, nil, impl.ErrRange)
		}
	}
	for i := range 4 {
		for _, n := range []int64{31, -31, 1000, -1000} {
			wide := impl.Form{1, 1, 1, 1}
			wide[i] = n
			for _, at := range [][2]int64{{0, 0}, {1, 1}, {4, 0}} {
				list, code := impl.SyzygyAt(wide, at[0], at[1])
				wantList(t, "SyzygyAt", list, code, nil, impl.ErrRange)
			}
		}
		for _, n := range []int64{101, -101, 1000, -1000} {
			wide := impl.Form{}
			wide[i] = n
			for _, pair := range [][2]impl.Form{{wide, f}, {f, wide}, {wide, wide}} {
				n, code := impl.ResultantOf(pair[0], pair[1])
				wantNumber(t, "ResultantOf", n, code, 0, impl.ErrRange)
			}
		}
	}
}

// TestListsOfCovariantsAreNew: a list that the caller changes is not the one of the next call.
func TestListsOfCovariantsAreNew(t *testing.T) {
	f := impl.Form{1, 0, -1, 1}
	covariant, _ := impl.CovariantOf(f)
	syzygy, _ := impl.SyzygyAt(f, 1, 1)
	for _, list := range [][]int64{covariant, syzygy} {
		for i := range list {
			list[i] = 77
		}
	}
	again, code := impl.CovariantOf(f)
	wantList(t, "CovariantOf again", again, code, []int64{-27, 18, -27, 25}, impl.ErrNone)
	again, code = impl.SyzygyAt(f, 1, 1)
	wantList(t, "SyzygyAt again", again, code, []int64{-500, 121, -621}, impl.ErrNone)
}
