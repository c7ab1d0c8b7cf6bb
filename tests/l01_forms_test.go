package tests

import (
	"math"
	"strings"
	"testing"

	"loop.example/g01342/impl"
)

// sampleForms have all signs, zeros, contents greater than 1, discriminants 0, and the limits.
func sampleForms() []impl.Form {
	return []impl.Form{
		{}, {1, 0, -1, 1}, {1, 1, -2, -1}, {1, 0, 0, 1}, {0, 1, 1, 0}, {1, 2, 1, 0}, {1, 3, 3, 1},
		{2, -3, 5, -7}, {-6, 9, 0, -15}, {0, 0, 0, 4}, {13, -40, 7, 22},
		{1000, -1000, 1000, -1000}, {-1000, -1000, -1000, -1000}, {999, 1000, -999, -1000},
	}
}

// smallMatrices are all matrices with numbers of absolute values of at most n.
func smallMatrices(n int64) []impl.Matrix {
	var all []impl.Matrix
	for p := -n; p <= n; p++ {
		for q := -n; q <= n; q++ {
			for r := -n; r <= n; r++ {
				for s := -n; s <= n; s++ {
					all = append(all, impl.Matrix{p, q, r, s})
				}
			}
		}
	}
	return all
}

// outside are numbers beyond the limit, the least int64 among them, which has no absolute value.
func outside(limit int64) []int64 {
	return []int64{limit + 1, -limit - 1, math.MaxInt64, math.MinInt64, math.MinInt64 + 1}
}

// valueByHand is f(x, y) by the rule of Horner, apart from the program's own sum.
func valueByHand(f impl.Form, x, y int64) int64 {
	return ((f[0]*x+f[1]*y)*x+f[2]*y*y)*x + f[3]*y*y*y
}

func wantForm(t *testing.T, what string, got impl.Form, code int64, want impl.Form, wantCode int64) {
	t.Helper()
	if got != want || code != wantCode {
		t.Errorf("%s = %v, %d, want %v, %d", what, got, code, want, wantCode)
	}
}

func wantMatrix(t *testing.T, what string, got impl.Matrix, code int64, want impl.Matrix, wantCode int64) {
	t.Helper()
	if got != want || code != wantCode {
		t.Errorf("%s = %v, %d, want %v, %d", what, got, code, want, wantCode)
	}
}

func wantNumber(t *testing.T, what string, got, code, want, wantCode int64) {
	t.Helper()
	if got != want || code != wantCode {
		t.Errorf("%s = %d, %d, want %d, %d", what, got, code, want, wantCode)
	}
}

func TestConstants(t *testing.T) {
	got := []int64{impl.ErrNone, impl.ErrInvalid, impl.ErrRange, impl.ErrLimit, impl.ErrNotFound, impl.ErrState, impl.ErrSyntax}
	for want, code := range got {
		if code != int64(want) {
			t.Errorf("code %d is %d", want, code)
		}
	}
	if impl.MaxNumber != 1000 || impl.MaxPlace != 10000 {
		t.Errorf("limits %d, %d", impl.MaxNumber, impl.MaxPlace)
	}
}

func TestIsFormAndIsMatrix(t *testing.T) {
	for i := range 4 {
		for _, n := range []int64{0, 1, -1, 1000, -1000} {
			var numbers [4]int64
			numbers[i] = n
			if !impl.IsForm(numbers) || !impl.IsMatrix(numbers) {
				t.Errorf("%v is refused", numbers)
			}
		}
		for _, n := range outside(1000) {
			var numbers [4]int64
			numbers[i] = n
			if impl.IsForm(numbers) || impl.IsMatrix(numbers) {
				t.Errorf("%v is accepted", numbers)
			}
		}
	}
}

// TestInvalidComesFirst gives each function something that is no form or matrix, together with all
// else that could be wrong: the code is ErrInvalid, and all other results are zero values.
func TestInvalidComesFirst(t *testing.T) {
	good := [4]int64{1000, 1000, 1000, 1000}
	for i := range 4 {
		for _, n := range outside(1000) {
			bad := good
			bad[i] = n
			number, code := impl.ValueAt(bad, 10001, 10001)
			wantNumber(t, "ValueAt", number, code, 0, impl.ErrInvalid)
			number, code = impl.DiscriminantOf(bad)
			wantNumber(t, "DiscriminantOf", number, code, 0, impl.ErrInvalid)
			number, code = impl.ContentOf(bad)
			wantNumber(t, "ContentOf", number, code, 0, impl.ErrInvalid)
			number, code = impl.DeterminantOf(bad)
			wantNumber(t, "DeterminantOf", number, code, 0, impl.ErrInvalid)
			f, code := impl.PrimitivePart(bad)
			wantForm(t, "PrimitivePart", f, code, impl.Form{}, impl.ErrInvalid)
			f, code = impl.ReverseForm(bad)
			wantForm(t, "ReverseForm", f, code, impl.Form{}, impl.ErrInvalid)
			for _, pair := range [][2][4]int64{{bad, good}, {good, bad}, {bad, bad}} {
				f, code = impl.AddForms(pair[0], pair[1], 1001)
				wantForm(t, "AddForms", f, code, impl.Form{}, impl.ErrInvalid)
				f, code = impl.ChangeForm(pair[0], pair[1])
				wantForm(t, "ChangeForm", f, code, impl.Form{}, impl.ErrInvalid)
				m, code := impl.MultiplyMatrices(pair[0], pair[1])
				wantMatrix(t, "MultiplyMatrices", m, code, impl.Matrix{}, impl.ErrInvalid)
			}
			m, code := impl.InverseMatrix(bad)
			wantMatrix(t, "InverseMatrix", m, code, impl.Matrix{}, impl.ErrInvalid)
			if a, b, code := impl.SlopesAt(bad, 10001, 10001); a != 0 || b != 0 || code != impl.ErrInvalid {
				t.Errorf("SlopesAt = %d, %d, %d", a, b, code)
			}
			if text, code := impl.FormText(bad); text != "" || code != impl.ErrInvalid {
				t.Errorf("FormText = %q, %d", text, code)
			}
		}
	}
}

func TestValueAt(t *testing.T) {
	for _, f := range sampleForms() {
		for _, x := range []int64{-10000, -37, -1, 0, 1, 2, 10000} {
			for _, y := range []int64{-10000, -3, -1, 0, 1, 41, 10000} {
				n, code := impl.ValueAt(f, x, y)
				wantNumber(t, "ValueAt", n, code, valueByHand(f, x, y), impl.ErrNone)
			}
		}
	}
	n, code := impl.ValueAt(impl.Form{1000, 1000, 1000, 1000}, 10000, 10000)
	wantNumber(t, "ValueAt at the limits", n, code, 4000000000000000, impl.ErrNone)
}

func TestPlacesBeyondTheLimit(t *testing.T) {
	f := impl.Form{1, 0, -1, 1}
	for _, far := range outside(10000) {
		for _, at := range [][2]int64{{far, 0}, {0, far}, {far, far}} {
			n, code := impl.ValueAt(f, at[0], at[1])
			wantNumber(t, "ValueAt", n, code, 0, impl.ErrRange)
			if a, b, code := impl.SlopesAt(f, at[0], at[1]); a != 0 || b != 0 || code != impl.ErrRange {
				t.Errorf("SlopesAt%v = %d, %d, %d", at, a, b, code)
			}
		}
	}
}

func TestDiscriminantOf(t *testing.T) {
	cases := []struct {
		f    impl.Form
		want int64
	}{
		{impl.Form{}, 0},
		{impl.Form{1, 0, -1, 1}, -23},
		{impl.Form{1, 1, -2, -1}, 49},
		{impl.Form{1, 0, 0, 1}, -27},
		{impl.Form{0, 1, 1, 0}, 1},
		{impl.Form{1, 3, 3, 1}, 0},
		{impl.Form{2, -3, 5, -7}, -3043},
		{impl.Form{1, 2, 3, 4}, -200},
		{impl.Form{1000, 1000, 1000, 1000}, -16000000000000},
		{impl.Form{1000, 1000, -1000, 1000}, -44000000000000},
		{impl.Form{1000, 0, 0, 1000}, -27000000000000},
	}
	for _, c := range cases {
		n, code := impl.DiscriminantOf(c.f)
		wantNumber(t, "DiscriminantOf", n, code, c.want, impl.ErrNone)
	}
}

// TestDiscriminantOfChanged: the discriminant is multiplied by the sixth power of the determinant.
func TestDiscriminantOfChanged(t *testing.T) {
	for _, m := range smallMatrices(2) {
		det, _ := impl.DeterminantOf(m)
		for _, f := range sampleForms() {
			g, code := impl.ChangeForm(f, m)
			if code != impl.ErrNone {
				continue
			}
			before, _ := impl.DiscriminantOf(f)
			after, code := impl.DiscriminantOf(g)
			wantNumber(t, "DiscriminantOf changed", after, code, before*det*det*det*det*det*det, impl.ErrNone)
		}
	}
}

func TestContentAndPrimitivePart(t *testing.T) {
	cases := []struct {
		f       impl.Form
		content int64
		part    impl.Form
	}{
		{impl.Form{6, -9, 0, 15}, 3, impl.Form{2, -3, 0, 5}},
		{impl.Form{-6, -9, -12, -15}, 3, impl.Form{-2, -3, -4, -5}},
		{impl.Form{1, 0, -1, 1}, 1, impl.Form{1, 0, -1, 1}},
		{impl.Form{0, 0, 0, -7}, 7, impl.Form{0, 0, 0, -1}},
		{impl.Form{-4, 0, 0, 0}, 4, impl.Form{-1, 0, 0, 0}},
		{impl.Form{0, 10, -4, 0}, 2, impl.Form{0, 5, -2, 0}},
		{impl.Form{6, 10, 15, 0}, 1, impl.Form{6, 10, 15, 0}},
		{impl.Form{1000, -1000, 0, 1000}, 1000, impl.Form{1, -1, 0, 1}},
		{impl.Form{1000, 999, 0, 0}, 1, impl.Form{1000, 999, 0, 0}},
	}
	for _, c := range cases {
		n, code := impl.ContentOf(c.f)
		wantNumber(t, "ContentOf", n, code, c.content, impl.ErrNone)
		f, code := impl.PrimitivePart(c.f)
		wantForm(t, "PrimitivePart", f, code, c.part, impl.ErrNone)
	}
	n, code := impl.ContentOf(impl.Form{})
	wantNumber(t, "ContentOf 0", n, code, 0, impl.ErrNone)
	f, code := impl.PrimitivePart(impl.Form{})
	wantForm(t, "PrimitivePart of 0", f, code, impl.Form{}, impl.ErrState)
}

func TestDeterminantOf(t *testing.T) {
	cases := []struct {
		m    impl.Matrix
		want int64
	}{
		{impl.Matrix{}, 0}, {impl.Matrix{1, 0, 0, 1}, 1}, {impl.Matrix{0, 1, 1, 0}, -1},
		{impl.Matrix{2, 3, 5, 7}, -1}, {impl.Matrix{2, 4, 3, 6}, 0}, {impl.Matrix{4, 1, 3, 5}, 17},
		{impl.Matrix{1000, 1000, -1000, 1000}, 2000000}, {impl.Matrix{-1000, 1000, 1000, 1000}, -2000000},
	}
	for _, c := range cases {
		n, code := impl.DeterminantOf(c.m)
		wantNumber(t, "DeterminantOf", n, code, c.want, impl.ErrNone)
	}
}

func TestMultiplyMatrices(t *testing.T) {
	one := impl.Matrix{1, 0, 0, 1}
	cases := []struct {
		m, n, want impl.Matrix
		code       int64
	}{
		{impl.Matrix{1, 2, 3, 4}, impl.Matrix{5, 6, 7, 8}, impl.Matrix{19, 22, 43, 50}, impl.ErrNone},
		{impl.Matrix{5, 6, 7, 8}, impl.Matrix{1, 2, 3, 4}, impl.Matrix{23, 34, 31, 46}, impl.ErrNone},
		{impl.Matrix{1000, -1000, 7, 1000}, one, impl.Matrix{1000, -1000, 7, 1000}, impl.ErrNone},
		{one, impl.Matrix{1000, -1000, 7, 1000}, impl.Matrix{1000, -1000, 7, 1000}, impl.ErrNone},
		{impl.Matrix{}, impl.Matrix{1000, 1000, 1000, 1000}, impl.Matrix{}, impl.ErrNone},
		{impl.Matrix{1000, 1000, 0, 0}, impl.Matrix{1000, 0, -1000, 0}, impl.Matrix{}, impl.ErrNone},
		{impl.Matrix{999, 1, 0, 0}, impl.Matrix{1, 0, 1, 0}, impl.Matrix{1000, 0, 0, 0}, impl.ErrNone},
		{impl.Matrix{1000, 1, 0, 0}, impl.Matrix{1, 0, 1, 0}, impl.Matrix{}, impl.ErrLimit},
		{impl.Matrix{1000, 1, 0, 0}, impl.Matrix{0, 1, 0, 1}, impl.Matrix{}, impl.ErrLimit},
		{impl.Matrix{0, 0, 1000, 1}, impl.Matrix{-1, 0, -1, 0}, impl.Matrix{}, impl.ErrLimit},
		{impl.Matrix{0, 0, -1000, -1}, impl.Matrix{0, 1, 0, 1}, impl.Matrix{}, impl.ErrLimit},
		{impl.Matrix{0, 0, -999, -1}, impl.Matrix{0, 1, 0, 1}, impl.Matrix{0, 0, 0, -1000}, impl.ErrNone},
		{impl.Matrix{1000, 1000, 1000, 1000}, impl.Matrix{1000, 1000, 1000, 1000}, impl.Matrix{}, impl.ErrLimit},
	}
	for _, c := range cases {
		k, code := impl.MultiplyMatrices(c.m, c.n)
		wantMatrix(t, "MultiplyMatrices", k, code, c.want, c.code)
	}
}

// TestInverseMatrix: inverse matrices lead back from both sides, and only unit matrices have them.
func TestInverseMatrix(t *testing.T) {
	one := impl.Matrix{1, 0, 0, 1}
	large := []impl.Matrix{{1000, 999, 1, 1}, {-999, 1000, -1, 1}, {1, 1000, 0, -1}, {1, 0, -1000, 1}, {0, 1, 1, -1000}}
	for _, m := range append(smallMatrices(3), large...) {
		det, _ := impl.DeterminantOf(m)
		k, code := impl.InverseMatrix(m)
		if det != 1 && det != -1 {
			wantMatrix(t, "InverseMatrix", k, code, impl.Matrix{}, impl.ErrState)
			continue
		}
		if code != impl.ErrNone || !impl.IsMatrix(k) {
			t.Errorf("InverseMatrix(%v) = %v, %d", m, k, code)
		}
		left, code := impl.MultiplyMatrices(k, m)
		wantMatrix(t, "inverse times matrix", left, code, one, impl.ErrNone)
		right, code := impl.MultiplyMatrices(m, k)
		wantMatrix(t, "matrix times inverse", right, code, one, impl.ErrNone)
		again, code := impl.InverseMatrix(k)
		wantMatrix(t, "inverse of the inverse", again, code, m, impl.ErrNone)
	}
}

// TestChangeFormHasTheValues: the changed form has at x, y the value of the form at the place that
// the matrix makes of it.
func TestChangeFormHasTheValues(t *testing.T) {
	places := [][2]int64{{1, 0}, {0, 1}, {1, 1}, {1, -1}, {2, 1}, {-3, 5}, {11, 4}}
	changedForms := 0
	for _, m := range smallMatrices(2) {
		for _, f := range sampleForms() {
			g, code := impl.ChangeForm(f, m)
			if code == impl.ErrLimit && g == (impl.Form{}) {
				continue
			}
			changedForms++
			if code != impl.ErrNone || !impl.IsForm(g) {
				t.Fatalf("ChangeForm(%v, %v) = %v, %d", f, m, g, code)
			}
			for _, at := range places {
				x, y := at[0], at[1]
				n, code := impl.ValueAt(g, x, y)
				wantNumber(t, "value changed", n, code, valueByHand(f, m[0]*x+m[1]*y, m[2]*x+m[3]*y), impl.ErrNone)
			}
		}
	}
	if changedForms < 5000 {
		t.Errorf("only %d forms were changed", changedForms)
	}
}

func TestChangeFormLimits(t *testing.T) {
	ends := [4]int64{1000, 1000, 1000, 1000}
	cases := []struct {
		f    impl.Form
		m    impl.Matrix
		want impl.Form
		code int64
	}{
		{impl.Form{1, 0, -1, 1}, impl.Matrix{1, 1, 0, 1}, impl.Form{1, 3, 2, 1}, impl.ErrNone},
		{impl.Form{1, 2, 3, 4}, impl.Matrix{0, 1, 1, 0}, impl.Form{4, 3, 2, 1}, impl.ErrNone},
		{impl.Form{1, 0, 0, 0}, impl.Matrix{10, 0, 0, 1}, impl.Form{1000, 0, 0, 0}, impl.ErrNone},
		{impl.Form{0, 0, 0, 1}, impl.Matrix{1, 0, 0, -10}, impl.Form{0, 0, 0, -1000}, impl.ErrNone},
		{impl.Form{1, 0, 0, 1}, impl.Matrix{10, 0, 1, 0}, impl.Form{}, impl.ErrLimit},
		{impl.Form{-1, 0, 0, -1}, impl.Matrix{0, 10, 0, 1}, impl.Form{}, impl.ErrLimit},
		{impl.Form{0, 1000, 0, 0}, impl.Matrix{1, 0, 0, 1}, impl.Form{0, 1000, 0, 0}, impl.ErrNone},
		{impl.Form{0, 1, 1000, 0}, impl.Matrix{1, 0, 0, 1}, impl.Form{0, 1, 1000, 0}, impl.ErrNone},
		{impl.Form{0, 0, 1, 0}, impl.Matrix{10, 0, 0, 10}, impl.Form{0, 0, 1000, 0}, impl.ErrNone},
		{impl.Form{0, 0, 1, 0}, impl.Matrix{11, 0, 0, 10}, impl.Form{}, impl.ErrLimit},
		{impl.Form{0, 7, 0, 0}, impl.Matrix{1, 0, 0, 143}, impl.Form{}, impl.ErrLimit},
		{impl.Form{0, 0, 7, 0}, impl.Matrix{143, 0, 0, 1}, impl.Form{}, impl.ErrLimit},
		{impl.Form{1, 2, 3, 4}, impl.Matrix{}, impl.Form{}, impl.ErrNone},
		{impl.Form{}, ends, impl.Form{}, impl.ErrNone},
		{impl.Form{1000, -1000, 1000, -1000}, ends, impl.Form{}, impl.ErrNone},
		{ends, ends, impl.Form{}, impl.ErrLimit},
	}
	for _, c := range cases {
		g, code := impl.ChangeForm(c.f, c.m)
		wantForm(t, "ChangeForm", g, code, c.want, c.code)
	}
}

// TestChangeFormTwice: a form changed by a product is changed by the first matrix, then the second
// one, and a unit matrix and its inverse lead back.
func TestChangeFormTwice(t *testing.T) {
	f := impl.Form{2, -3, 5, -1}
	for _, m := range smallMatrices(1) {
		g, code := impl.ChangeForm(f, m)
		if code != impl.ErrNone {
			t.Fatalf("ChangeForm(%v, %v): code %d", f, m, code)
		}
		for _, n := range smallMatrices(1) {
			product, _ := impl.MultiplyMatrices(m, n)
			want, _ := impl.ChangeForm(f, product)
			got, code := impl.ChangeForm(g, n)
			wantForm(t, "ChangeForm twice", got, code, want, impl.ErrNone)
		}
		if inverse, code := impl.InverseMatrix(m); code == impl.ErrNone {
			back, code := impl.ChangeForm(g, inverse)
			wantForm(t, "ChangeForm and back", back, code, f, impl.ErrNone)
		}
	}
}

func TestAddForms(t *testing.T) {
	cases := []struct {
		f, g impl.Form
		k    int64
		want impl.Form
		code int64
	}{
		{impl.Form{1, 0, -1, 1}, impl.Form{0, 1, 1, 0}, -2, impl.Form{1, -2, -3, 1}, impl.ErrNone},
		{impl.Form{1, 2, 3, 4}, impl.Form{1000, 1000, 1000, 1000}, 0, impl.Form{1, 2, 3, 4}, impl.ErrNone},
		{impl.Form{}, impl.Form{1, 0, -1, 0}, 1000, impl.Form{1000, 0, -1000, 0}, impl.ErrNone},
		{impl.Form{}, impl.Form{1, 0, -1, 0}, -1000, impl.Form{-1000, 0, 1000, 0}, impl.ErrNone},
		{impl.Form{1, 0, 0, 0}, impl.Form{1, 0, 0, 0}, 1000, impl.Form{}, impl.ErrLimit},
		{impl.Form{0, 0, 0, -1}, impl.Form{0, 0, 0, 1}, -1000, impl.Form{}, impl.ErrLimit},
		{impl.Form{0, 1, 0, 0}, impl.Form{0, 999, 0, 0}, 1, impl.Form{0, 1000, 0, 0}, impl.ErrNone},
		{impl.Form{0, 1, 0, 0}, impl.Form{0, 1000, 0, 0}, 1, impl.Form{}, impl.ErrLimit},
		{impl.Form{1000, 5, 0, 0}, impl.Form{1000, 0, 0, 0}, -1, impl.Form{0, 5, 0, 0}, impl.ErrNone},
	}
	for _, c := range cases {
		g, code := impl.AddForms(c.f, c.g, c.k)
		wantForm(t, "AddForms", g, code, c.want, c.code)
	}
	for _, k := range outside(1000) {
		g, code := impl.AddForms(impl.Form{1, 2, 3, 4}, impl.Form{}, k)
		wantForm(t, "AddForms with k beyond the limit", g, code, impl.Form{}, impl.ErrRange)
		g, code = impl.AddForms(impl.Form{1000, 0, 0, 0}, impl.Form{1000, 0, 0, 0}, k)
		wantForm(t, "AddForms with k and the result beyond the limits", g, code, impl.Form{}, impl.ErrRange)
	}
}

func TestReverseForm(t *testing.T) {
	f, code := impl.ReverseForm(impl.Form{1, -2, 3, 1000})
	wantForm(t, "ReverseForm", f, code, impl.Form{1000, 3, -2, 1}, impl.ErrNone)
}

func TestSlopesAt(t *testing.T) {
	if a, b, code := impl.SlopesAt(impl.Form{1, 2, 3, 4}, 5, -7); a != 82 || b != 428 || code != impl.ErrNone {
		t.Errorf("SlopesAt = %d, %d, %d", a, b, code)
	}
	for _, f := range sampleForms() {
		for _, at := range [][2]int64{{0, 0}, {1, 0}, {0, 1}, {3, -8}, {10000, -10000}, {-10000, 10000}, {10000, 10000}} {
			a, b, code := impl.SlopesAt(f, at[0], at[1])
			if code != impl.ErrNone || at[0]*a+at[1]*b != 3*valueByHand(f, at[0], at[1]) {
				t.Errorf("SlopesAt(%v, %v) = %d, %d, %d", f, at, a, b, code)
			}
		}
	}
}

func TestFormThroughValues(t *testing.T) {
	for _, f := range sampleForms() {
		values := []int64{valueByHand(f, 1, 0), valueByHand(f, 0, 1), valueByHand(f, 1, 1), valueByHand(f, 1, -1)}
		g, code := impl.FormThrough(values)
		wantForm(t, "FormThrough", g, code, f, impl.ErrNone)
	}
}

func TestFormThroughLimits(t *testing.T) {
	cases := []struct {
		values []int64
		want   impl.Form
		code   int64
	}{
		{[]int64{1, 1, 1, -1}, impl.Form{1, 0, -1, 1}, impl.ErrNone},
		{[]int64{1000, -1000, -2000, 2000}, impl.Form{1000, -1000, -1000, -1000}, impl.ErrNone},
		{[]int64{1, 1, 1, 0}, impl.Form{}, impl.ErrState},
		{[]int64{0, 0, -1, 0}, impl.Form{}, impl.ErrState},
		{[]int64{0, 0, 1, -1}, impl.Form{0, 1, 0, 0}, impl.ErrNone},
		{[]int64{1001, 0, 1001, 1001}, impl.Form{}, impl.ErrLimit},
		{[]int64{0, -1001, 0, 0}, impl.Form{}, impl.ErrLimit},
		{[]int64{0, 0, 1000, -1000}, impl.Form{0, 1000, 0, 0}, impl.ErrNone},
		{[]int64{0, 0, 1001, -1001}, impl.Form{}, impl.ErrLimit},
		{[]int64{0, 0, -1001, -1001}, impl.Form{}, impl.ErrLimit},
		{[]int64{10000, 10000, 10000, 10000}, impl.Form{}, impl.ErrLimit},
		{[]int64{-10000, -10000, -10000, -9999}, impl.Form{}, impl.ErrState},
		{nil, impl.Form{}, impl.ErrRange},
		{[]int64{1, 1, 1}, impl.Form{}, impl.ErrRange},
		{[]int64{1, 1, 1, -1, 0}, impl.Form{}, impl.ErrRange},
	}
	for i := range 4 {
		for _, n := range outside(10000) {
			values := []int64{1, 1, 1, 0}
			values[i] = n
			cases = append(cases, struct {
				values []int64
				want   impl.Form
				code   int64
			}{values, impl.Form{}, impl.ErrRange})
		}
	}
	for _, c := range cases {
		f, code := impl.FormThrough(c.values)
		wantForm(t, "FormThrough", f, code, c.want, c.code)
	}
}

func TestFormThroughKeepsItsArgument(t *testing.T) {
	values := []int64{1, 1, 1, -1, 77}
	if _, code := impl.FormThrough(values[:4]); code != impl.ErrNone {
		t.Errorf("FormThrough: code %d", code)
	}
	if [5]int64(values) != [5]int64{1, 1, 1, -1, 77} {
		t.Errorf("FormThrough changed its argument to %v", values)
	}
}

// TestTextsLeadBack: forms come back from their texts.
func TestTextsLeadBack(t *testing.T) {
	cases := []struct {
		f    impl.Form
		text string
	}{
		{impl.Form{}, "0,0,0,0"},
		{impl.Form{1, 0, -1, 1}, "1,0,-1,1"},
		{impl.Form{-1000, 1000, -10, 100}, "-1000,1000,-10,100"},
		{impl.Form{999, -9, 90, -909}, "999,-9,90,-909"},
	}
	for _, c := range cases {
		if text, code := impl.FormText(c.f); text != c.text || code != impl.ErrNone {
			t.Errorf("FormText(%v) = %q, %d", c.f, text, code)
		}
	}
	for _, f := range sampleForms() {
		text, _ := impl.FormText(f)
		g, code := impl.ParseForm(text)
		wantForm(t, "ParseForm "+text, g, code, f, impl.ErrNone)
	}
}

func TestParseFormSyntax(t *testing.T) {
	for i := range 4 {
		for _, n := range []string{"", "-", "00", "01", "-01", "-0", "+1", "+0", "--1", "1-", " 1", "1 ", "\t1", "1\n", "1.0", "1e2", "1_0", "0x1", "a", "٣", "1001", "-1001", "10000", "9223372036854775807", "-9223372036854775808", "9223372036854775808", "18446744073709551616", "4294967297", "\x00", "\xff", "1;"} {
			parts := []string{"1", "0", "-1", "1"}
			parts[i] = n
			text := strings.Join(parts, ",")
			f, code := impl.ParseForm(text)
			wantForm(t, "ParseForm "+text, f, code, impl.Form{}, impl.ErrSyntax)
		}
	}
	for _, text := range []string{"", ",", ",,,", "1", "1,0,-1", "1,0,-1,", ",0,-1,1", "1,0,-1,1,", ",1,0,-1,1", "1,0,-1,1,1", "1 0 -1 1", "1;0;-1;1", "1,0,,-1,1", "(1,0,-1,1)", "1,0,-1,1\n", strings.Repeat("1,", 100000), strings.Repeat("1", 100000) + ",0,0,0"} {
		f, code := impl.ParseForm(text)
		wantForm(t, "ParseForm", f, code, impl.Form{}, impl.ErrSyntax)
	}
}
