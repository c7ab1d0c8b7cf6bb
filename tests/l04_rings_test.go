package tests

import (
	"math"
	"math/big"
	"slices"
	"testing"

	"loop.example/g01342/impl"
)

var (
	oneElem = impl.Elem{1, 0, 0}
	sElem   = impl.Elem{0, 1, 0}
	tElem   = impl.Elem{0, 0, 1}
)

// productByHand is the product in the ring of f, with the rules for s s, s t and t t put in.
func productByHand(f impl.Form, x, y impl.Elem) impl.Elem {
	ss, st, tt := x[1]*y[1], x[1]*y[2]+x[2]*y[1], x[2]*y[2]
	return impl.Elem{
		x[0]*y[0] - ss*f[0]*f[2] - st*f[0]*f[3] - tt*f[1]*f[3],
		x[0]*y[1] + x[1]*y[0] + ss*f[1] + tt*f[3],
		x[0]*y[2] + x[2]*y[0] - ss*f[0] - tt*f[2],
	}
}

func matrixByHand(f impl.Form, x impl.Elem) [][]int64 {
	var rows [][]int64
	for _, base := range []impl.Elem{oneElem, sElem, tElem} {
		row := productByHand(f, x, base)
		rows = append(rows, row[:])
	}
	return rows
}

func normByHand(f impl.Form, x impl.Elem) *big.Int { return laplace(matrixByHand(f, x)) }

// shiftedTable is the table of s + h and t + g in the ring of f.
func shiftedTable(f impl.Form, g, h int64) []impl.Elem {
	a, b, c, d := f[0], f[1], f[2], f[3]
	return []impl.Elem{
		{-a*c - b*h + a*g - h*h, b + 2*h, -a},
		{-a*d - g*h, g, h},
		{-b*d - d*h + c*g - g*g, d, 2*g - c},
	}
}

// isShiftedTable reports whether a table is one of some ring with some g and h, as all right tables
// are.
func isShiftedTable(table []impl.Elem) bool {
	g, h := table[1][1], table[1][2]
	f := impl.Form{-table[0][2], table[0][1] - 2*h, 2*g - table[2][2], table[2][1]}
	return slices.Equal(table, shiftedTable(f, g, h))
}

// ringForms have numbers of absolute values of at most 100, and discriminants of both signs and 0.
func ringForms(count int) []impl.Form {
	return append(scatteredForms(count), impl.Form{}, impl.Form{1, 2, 1, 0}, impl.Form{1, 3, 3, 1}, impl.Form{4, 0, -3, 1},
		impl.Form{-8, 12, -6, 1}, impl.Form{0, 0, 5, 0}, impl.Form{7, 0, 0, 0}, impl.Form{0, 0, 0, -3}, impl.Form{-6, 9, 0, -15})
}

// scatteredElems are elements with numbers of absolute values of at most n, by a fixed rule.
func scatteredElems(count int, n int64) []impl.Elem {
	all := []impl.Elem{{}, oneElem, sElem, tElem, {-1, 0, 0}, {n, n, n}, {-n, n, -n}, {n, 0, -n}, {0, -n, n}}
	state := uint32(4)
	for len(all) < count {
		var x impl.Elem
		for i := range x {
			state = state*1664525 + 1013904223
			x[i] = int64(state>>8)%(2*n+1) - n
		}
		all = append(all, x)
	}
	return all
}

// elemsWithin are all elements with numbers of absolute values of at most n.
func elemsWithin(n int64) []impl.Elem {
	var all []impl.Elem
	for u := -n; u <= n; u++ {
		for v := -n; v <= n; v++ {
			for w := -n; w <= n; w++ {
				all = append(all, impl.Elem{u, v, w})
			}
		}
	}
	return all
}

func isElemWithin(x impl.Elem, n int64) bool {
	return max(x[0], x[1], x[2]) <= n && min(x[0], x[1], x[2]) >= -n
}

// signsOfDiscriminants counts negative, zero and positive discriminants.
func signsOfDiscriminants(forms []impl.Form) [3]int {
	var signs [3]int
	for _, f := range forms {
		signs[big.NewInt(discriminantByHand(f)).Sign()+1]++
	}
	return signs
}

func wantElem(t *testing.T, what string, got impl.Elem, code int64, want impl.Elem, wantCode int64) {
	t.Helper()
	if got != want || code != wantCode {
		t.Errorf("%s = %v, %d, want %v, %d", what, got, code, want, wantCode)
	}
}

func wantRows(t *testing.T, what string, got [][]int64, code int64, want [][]int64, wantCode int64) {
	t.Helper()
	if !slices.EqualFunc(got, want, slices.Equal) || code != wantCode {
		t.Errorf("%s = %v, %d, want %v, %d", what, got, code, want, wantCode)
	}
}

func wantTable(t *testing.T, what string, got []impl.Elem, code int64, want []impl.Elem, wantCode int64) {
	t.Helper()
	if !slices.Equal(got, want) || code != wantCode {
		t.Errorf("%s = %v, %d, want %v, %d", what, got, code, want, wantCode)
	}
}

func TestIsElem(t *testing.T) {
	if impl.MaxElem != 10000 {
		t.Errorf("MaxElem is %d", impl.MaxElem)
	}
	for i := range 3 {
		for _, n := range []int64{0, 1, -1, 101, 1001, 9999, 10000, -10000} {
			var x impl.Elem
			x[i] = n
			if !impl.IsElem(x) {
				t.Errorf("%v is refused", x)
			}
		}
		for _, n := range outside(10000) {
			var x impl.Elem
			x[i] = n
			if impl.IsElem(x) {
				t.Errorf("%v is accepted", x)
			}
		}
	}
	if !impl.IsElem(impl.Elem{10000, -10000, 10000}) {
		t.Errorf("10000, -10000, 10000 is refused")
	}
}

func TestMultiplyElems(t *testing.T) {
	f := impl.Form{1, 0, -1, 1}
	ends := impl.Elem{10000, 10000, 10000}
	cases := []struct {
		f    impl.Form
		x, y impl.Elem
		want impl.Elem
		code int64
	}{
		{f, sElem, tElem, impl.Elem{-1, 0, 0}, impl.ErrNone},
		{f, sElem, sElem, impl.Elem{1, 0, -1}, impl.ErrNone},
		{f, tElem, tElem, impl.Elem{0, 1, 1}, impl.ErrNone},
		{impl.Form{2, 3, 5, 7}, sElem, sElem, impl.Elem{-10, 3, -2}, impl.ErrNone},
		{impl.Form{2, 3, 5, 7}, sElem, tElem, impl.Elem{-14, 0, 0}, impl.ErrNone},
		{impl.Form{2, 3, 5, 7}, tElem, tElem, impl.Elem{-21, 7, -5}, impl.ErrNone},
		{impl.Form{2, 3, 5, 7}, impl.Elem{1, 2, 3}, impl.Elem{4, 5, 6}, impl.Elem{-852, 169, -92}, impl.ErrNone},
		{impl.Form{}, sElem, tElem, impl.Elem{}, impl.ErrNone},
		{impl.Form{}, impl.Elem{2, 3, 5}, impl.Elem{7, 11, 13}, impl.Elem{14, 43, 61}, impl.ErrNone},
		{impl.Form{1000, -1000, 1000, -1000}, ends, oneElem, ends, impl.ErrNone},
		{impl.Form{1000, -1000, 1000, -1000}, ends, impl.Elem{}, impl.Elem{}, impl.ErrNone},
		// Each number at the limit, and beyond (73 times 137 is 10001).
		{f, impl.Elem{100, 0, 0}, impl.Elem{100, 0, 0}, impl.Elem{10000, 0, 0}, impl.ErrNone},
		{f, impl.Elem{-100, 0, 0}, impl.Elem{0, 100, 0}, impl.Elem{0, -10000, 0}, impl.ErrNone},
		{f, impl.Elem{0, 0, 100}, impl.Elem{100, 0, 0}, impl.Elem{0, 0, 10000}, impl.ErrNone},
		{f, impl.Elem{73, 0, 0}, impl.Elem{137, 0, 0}, impl.Elem{}, impl.ErrLimit},
		{f, impl.Elem{73, 0, 0}, impl.Elem{-137, 0, 0}, impl.Elem{}, impl.ErrLimit},
		{f, impl.Elem{73, 0, 0}, impl.Elem{0, 137, 0}, impl.Elem{}, impl.ErrLimit},
		{f, impl.Elem{0, 73, 0}, impl.Elem{-137, 0, 0}, impl.Elem{}, impl.ErrLimit},
		{f, impl.Elem{73, 0, 0}, impl.Elem{0, 0, 137}, impl.Elem{}, impl.ErrLimit},
		{f, impl.Elem{0, 0, -73}, impl.Elem{137, 0, 0}, impl.Elem{}, impl.ErrLimit},
		// The parts of these products are beyond the limit, but not all together are.
		{impl.Form{1000, 1000, 1000, 1000}, impl.Elem{0, 10000, 10000}, impl.Elem{0, 10000, -10000}, impl.Elem{}, impl.ErrNone},
		{impl.Form{0, 1000, 0, 0}, impl.Elem{-10000, 10, 0}, impl.Elem{0, 1, 0}, impl.Elem{}, impl.ErrNone},
		// Products far beyond.
		{impl.Form{1000, 1000, 1000, 1000}, impl.Elem{0, 10000, 0}, impl.Elem{10000, 0, 0}, impl.Elem{}, impl.ErrLimit},
		{impl.Form{1000, -1000, 1000, 1000}, impl.Elem{0, 10000, 10000}, impl.Elem{0, 10000, -10000}, impl.Elem{}, impl.ErrLimit},
		{impl.Form{1000, 1000, 1000, 1000}, ends, ends, impl.Elem{}, impl.ErrLimit},
		{impl.Form{1000, -1000, 1000, -1000}, ends, impl.Elem{10000, -10000, 10000}, impl.Elem{}, impl.ErrLimit},
	}
	for _, c := range cases {
		got, code := impl.MultiplyElems(c.f, c.x, c.y)
		wantElem(t, "MultiplyElems", got, code, c.want, c.code)
		got, code = impl.MultiplyElems(c.f, c.y, c.x)
		wantElem(t, "MultiplyElems in the other order", got, code, c.want, c.code)
	}
}

// TestMultiplyElemsByTheRules multiplies elements of all sizes in rings of all kinds.
func TestMultiplyElemsByTheRules(t *testing.T) {
	var within, beyond int
	elems := slices.Concat(elemsWithin(1), scatteredElems(20, 9), scatteredElems(20, 10000))
	for _, f := range append(mixedForms(20), ringForms(20)...) {
		for _, x := range elems {
			for _, y := range elems {
				want, wantCode := productByHand(f, x, y), int64(impl.ErrNone)
				if isElemWithin(want, 10000) {
					within++
				} else {
					want, wantCode = impl.Elem{}, impl.ErrLimit
					beyond++
				}
				got, code := impl.MultiplyElems(f, x, y)
				wantElem(t, "MultiplyElems", got, code, want, wantCode)
			}
		}
	}
	if within < 10000 || beyond < 10000 {
		t.Errorf("%d products within the limit, %d beyond", within, beyond)
	}
}

// TestRingIsARing: products are associative, distributive, and have the unit 1, 0, 0.
func TestRingIsARing(t *testing.T) {
	for _, f := range append(smallForms(1), impl.Form{}, impl.Form{1, 3, 3, 1}, impl.Form{2, -3, 5, -7}, impl.Form{4, 0, -3, 1}) {
		multiply := func(x, y impl.Elem) impl.Elem {
			product, code := impl.MultiplyElems(f, x, y)
			if code != impl.ErrNone {
				t.Fatalf("MultiplyElems(%v, %v, %v): code %d", f, x, y, code)
			}
			return product
		}
		elems := []impl.Elem{oneElem, sElem, tElem, {2, -1, 3}, {-1, 4, 1}, {0, -2, -3}}
		for _, x := range elems {
			wantElem(t, "1 times x", multiply(oneElem, x), 0, x, 0)
			for _, y := range elems {
				for _, z := range elems {
					wantElem(t, "(x y) z", multiply(multiply(x, y), z), 0, multiply(x, multiply(y, z)), 0)
					sum, _ := impl.AddElems(y, z, -3)
					parts, _ := impl.AddElems(multiply(x, y), multiply(x, z), -3)
					wantElem(t, "x (y - 3 z)", multiply(x, sum), 0, parts, 0)
				}
			}
		}
	}
}

func TestAddElems(t *testing.T) {
	cases := []struct {
		x, y impl.Elem
		k    int64
		want impl.Elem
		code int64
	}{
		{impl.Elem{1, 2, 3}, impl.Elem{1, 1, 1}, -2, impl.Elem{-1, 0, 1}, impl.ErrNone},
		{impl.Elem{1, 2, 3}, impl.Elem{5, -7, 11}, 13, impl.Elem{66, -89, 146}, impl.ErrNone},
		{impl.Elem{1, 2, 3}, impl.Elem{10000, 10000, 10000}, 0, impl.Elem{1, 2, 3}, impl.ErrNone},
		{impl.Elem{}, impl.Elem{1, 0, -1}, 10000, impl.Elem{10000, 0, -10000}, impl.ErrNone},
		{impl.Elem{}, impl.Elem{1, 0, -1}, -10000, impl.Elem{-10000, 0, 10000}, impl.ErrNone},
		{impl.Elem{10000, -10000, 10000}, impl.Elem{-2, 2, -2}, 10000, impl.Elem{-10000, 10000, -10000}, impl.ErrNone},
		{impl.Elem{1, 0, 0}, impl.Elem{1, 0, 0}, 10000, impl.Elem{}, impl.ErrLimit},
		{impl.Elem{0, -1, 0}, impl.Elem{0, 1, 0}, -10000, impl.Elem{}, impl.ErrLimit},
		{impl.Elem{0, 0, 10000}, impl.Elem{0, 0, 1}, 1, impl.Elem{}, impl.ErrLimit},
		{impl.Elem{10000, 10000, 10000}, impl.Elem{10000, 10000, 10000}, 10000, impl.Elem{}, impl.ErrLimit},
		{impl.Elem{-10000, 0, 0}, impl.Elem{10000, 0, 0}, -10000, impl.Elem{}, impl.ErrLimit},
	}
	for _, c := range cases {
		got, code := impl.AddElems(c.x, c.y, c.k)
		wantElem(t, "AddElems", got, code, c.want, c.code)
	}
	for _, k := range outside(10000) {
		for _, y := range []impl.Elem{{}, sElem, {10000, 10000, 10000}} {
			got, code := impl.AddElems(oneElem, y, k)
			wantElem(t, "AddElems", got, code, impl.Elem{}, impl.ErrRange)
		}
	}
}

func TestMatrixOfElem(t *testing.T) {
	ends := impl.Form{1000, 1000, 1000, 1000}
	cases := []struct {
		f    impl.Form
		x    impl.Elem
		want [][]int64
	}{
		{impl.Form{1, 0, -1, 1}, sElem, [][]int64{{0, 1, 0}, {1, 0, -1}, {-1, 0, 0}}},
		{impl.Form{1, 0, -1, 1}, oneElem, [][]int64{{1, 0, 0}, {0, 1, 0}, {0, 0, 1}}},
		{impl.Form{1, 1, -2, -1}, impl.Elem{3, -4, 5}, [][]int64{{3, -4, 5}, {-3, -1, 4}, {1, -5, 13}}},
		{impl.Form{2, -3, 5, -7}, impl.Elem{10, -20, 30}, [][]int64{{10, -20, 30}, {620, 70, 40}, {-910, -210, -140}}},
		{impl.Form{0, 1, 1, 0}, impl.Elem{3, 4, 5}, [][]int64{{3, 4, 5}, {0, 7, 0}, {0, 0, -2}}},
		{impl.Form{1, 3, 3, 1}, impl.Elem{2, 3, 4}, [][]int64{{2, 3, 4}, {-13, 11, -3}, {-15, 4, -10}}},
		{impl.Form{}, impl.Elem{5, 6, 7}, [][]int64{{5, 6, 7}, {0, 5, 0}, {0, 0, 5}}},
		// The numbers of the rows may be beyond MaxElem.
		{ends, impl.Elem{10000, 10000, 10000}, [][]int64{
			{10000, 10000, 10000}, {-20000000000, 10010000, -10000000}, {-20000000000, 10000000, -9990000},
		}},
	}
	for _, c := range cases {
		got, code := impl.MatrixOfElem(c.f, c.x)
		wantRows(t, "MatrixOfElem", got, code, c.want, impl.ErrNone)
	}
	for _, f := range mixedForms(100) {
		for _, x := range append(scatteredElems(30, 100), scatteredElems(30, 10000)...) {
			rows := matrixByHand(f, x)
			got, code := impl.MatrixOfElem(f, x)
			wantRows(t, "MatrixOfElem", got, code, rows, impl.ErrNone)
			n, code := impl.TraceOf(f, x)
			wantNumber(t, "TraceOf", n, code, rows[0][0]+rows[1][1]+rows[2][2], impl.ErrNone)
		}
	}
}

func TestTraceOf(t *testing.T) {
	cases := []struct {
		f    impl.Form
		x    impl.Elem
		want int64
	}{
		{impl.Form{1, 0, -1, 1}, impl.Elem{2, 1, 0}, 6},
		{impl.Form{2, 3, 5, 7}, sElem, 3},
		{impl.Form{2, 3, 5, 7}, tElem, -5},
		{impl.Form{2, 3, 5, 7}, impl.Elem{1, 10, 100}, -467},
		{impl.Form{}, impl.Elem{-7, 8, 9}, -21},
		{impl.Form{0, 1000, -1000, 0}, impl.Elem{10000, 10000, 10000}, 20030000},
		{impl.Form{0, -1000, 1000, 0}, impl.Elem{-10000, 10000, 10000}, -20030000},
	}
	for _, c := range cases {
		n, code := impl.TraceOf(c.f, c.x)
		wantNumber(t, "TraceOf", n, code, c.want, impl.ErrNone)
	}
}

// TestNormsAndPolynomials has polynomials found apart from the program; the norm is the negative last
// number.
func TestNormsAndPolynomials(t *testing.T) {
	cases := []struct {
		f    impl.Form
		x    impl.Elem
		want []int64
	}{
		{impl.Form{1, 0, -1, 1}, sElem, []int64{1, 0, -1, -1}},
		{impl.Form{1, 0, -1, 1}, impl.Elem{2, 1, 0}, []int64{1, -6, 11, -7}},
		{impl.Form{1, 0, -1, 1}, oneElem, []int64{1, -3, 3, -1}},
		{impl.Form{1, 1, -2, -1}, impl.Elem{3, -4, 5}, []int64{1, -15, 26, 71}},
		{impl.Form{2, -3, 5, -7}, impl.Elem{10, -20, 30}, []int64{1, 60, 37600, 3017000}},
		{impl.Form{-6, 9, 0, -15}, impl.Elem{-1, 2, -3}, []int64{1, -15, -2868, 79228}},
		{impl.Form{0, 1, 1, 0}, impl.Elem{3, 4, 5}, []int64{1, -8, 1, 42}},
		{impl.Form{1, 3, 3, 1}, impl.Elem{2, 3, 4}, []int64{1, -3, 3, -1}},
		{impl.Form{}, impl.Elem{5, 6, 7}, []int64{1, -15, 75, -125}},
		{impl.Form{1, 0, 0, 1}, impl.Elem{}, []int64{1, 0, 0, 0}},
		{impl.Form{100, 100, 100, 100}, impl.Elem{100, 100, 100}, []int64{1, -300, 400030000, -40001000000}},
		{impl.Form{-100, -100, 100, 100}, impl.Elem{-100, 100, 100}, []int64{1, 20300, -395970000, -8039799000000}},
		{impl.Form{-100, -100, 100, 100}, impl.Elem{-100, -100, -100}, []int64{1, -19700, -403970000, 7959801000000}},
	}
	for _, c := range cases {
		got, code := impl.PolynomialOf(c.f, c.x)
		wantList(t, "PolynomialOf", got, code, c.want, impl.ErrNone)
		n, code := impl.NormOf(c.f, c.x)
		wantNumber(t, "NormOf", n, code, -c.want[3], impl.ErrNone)
	}
}

// TestNormsOfProducts is the first part of the promise 4. The norm of a product beyond the range of
// NormOf is taken from the rows of its matrix.
func TestNormsOfProducts(t *testing.T) {
	forms := append(ringForms(60), smallForms(1)...)
	if signs := signsOfDiscriminants(forms); slices.Min(signs[:]) < 8 {
		t.Fatalf("discriminants with signs %v", signs)
	}
	elems := append(scatteredElems(20, 5), scatteredElems(15, 100)...)
	var within, beyond int
	for _, f := range forms {
		for _, x := range elems {
			first, code := impl.NormOf(f, x)
			if normByHand(f, x).Cmp(big.NewInt(first)) != 0 || code != impl.ErrNone {
				t.Errorf("NormOf(%v, %v) = %d, %d", f, x, first, code)
			}
			for _, y := range elems {
				second, _ := impl.NormOf(f, y)
				want := new(big.Int).Mul(big.NewInt(first), big.NewInt(second))
				product, code := impl.MultiplyElems(f, x, y)
				if code != impl.ErrNone {
					continue
				}
				if isElemWithin(product, 100) {
					within++
					n, code := impl.NormOf(f, product)
					if want.Cmp(big.NewInt(n)) != 0 || code != impl.ErrNone {
						t.Errorf("NormOf(%v, %v) = %d, %d, want %v", f, product, n, code, want)
					}
					continue
				}
				beyond++
				rows, code := impl.MatrixOfElem(f, product)
				if n := laplace(rows); want.Cmp(n) != 0 || code != impl.ErrNone {
					t.Errorf("norm of %v times %v in %v: %v, %d, want %v", x, y, f, n, code, want)
				}
			}
		}
	}
	if within < 10000 || beyond < 10000 {
		t.Errorf("%d products within the range, %d beyond", within, beyond)
	}
}

// TestElementsAreZerosOfPolynomials: x is a zero of its polynomial, and the polynomial has the
// values of the determinant of z times 1, less the matrix.
func TestElementsAreZerosOfPolynomials(t *testing.T) {
	for _, f := range append(ringForms(80), impl.Form{100, -100, 100, 100}, impl.Form{-100, -100, -100, 100}) {
		for _, x := range append(elemsWithin(1), scatteredElems(20, 100)...) {
			p, code := impl.PolynomialOf(f, x)
			if len(p) != 4 || p[0] != 1 || code != impl.ErrNone {
				t.Fatalf("PolynomialOf(%v, %v) = %v, %d", f, x, p, code)
			}
			// By Horner's rule: ((x + p) x + q) x + r.
			sum := oneElem
			for _, n := range p[1:] {
				sum = productByHand(f, sum, x)
				sum[0] += n
			}
			wantElem(t, "the value of the polynomial", sum, 0, impl.Elem{}, 0)
			for _, z := range []int64{-1, 1, 7} {
				rows := matrixByHand(f, x)
				for i, row := range rows {
					for j := range row {
						row[j] = -row[j]
					}
					row[i] += z
				}
				if want := laplace(rows); want.Cmp(big.NewInt(((z+p[1])*z+p[2])*z+p[3])) != 0 {
					t.Errorf("PolynomialOf(%v, %v) = %v, at %d not %v", f, x, p, z, want)
				}
			}
		}
	}
}

func TestInverseElem(t *testing.T) {
	cases := []struct {
		f    impl.Form
		x    impl.Elem
		want impl.Elem
		code int64
	}{
		{impl.Form{1, 0, -1, 1}, sElem, impl.Elem{0, 0, -1}, impl.ErrNone},
		{impl.Form{1, 0, -1, 1}, oneElem, oneElem, impl.ErrNone},
		{impl.Form{1, 0, -1, 1}, impl.Elem{-1, 0, 0}, impl.Elem{-1, 0, 0}, impl.ErrNone},
		{impl.Form{1, 0, -1, 1}, impl.Elem{}, impl.Elem{}, impl.ErrState},
		{impl.Form{1, 0, -1, 1}, impl.Elem{2, 0, 0}, impl.Elem{}, impl.ErrState},
		{impl.Form{1, 0, -1, 1}, impl.Elem{2, 1, 0}, impl.Elem{}, impl.ErrState},
		{impl.Form{1, 1, -2, -1}, sElem, tElem, impl.ErrNone},
		{impl.Form{1, 0, 0, -65}, impl.Elem{-4, -1, 0}, impl.Elem{16, -4, -1}, impl.ErrNone},
		{impl.Form{0, 1, 1, 0}, impl.Elem{-1, 2, -2}, impl.Elem{-1, 2, -2}, impl.ErrNone},
		{impl.Form{0, 1, 1, 0}, sElem, impl.Elem{}, impl.ErrState},
		{impl.Form{1, 3, 3, 1}, impl.Elem{-2, 1, 0}, impl.Elem{2, -2, 1}, impl.ErrNone},
		{impl.Form{}, impl.Elem{-1, 100, -100}, impl.Elem{-1, -100, 100}, impl.ErrNone},
		{impl.Form{}, impl.Elem{1, 100, -100}, impl.Elem{1, -100, 100}, impl.ErrNone},
		{impl.Form{}, impl.Elem{0, 1, 1}, impl.Elem{}, impl.ErrState},
		{impl.Form{100, 100, 100, 100}, impl.Elem{100, 100, 100}, impl.Elem{}, impl.ErrState},
		// Each number at the limit, or near it, and beyond.
		{impl.Form{1, -6, 18, -19}, impl.Elem{52, 34, -1}, impl.Elem{-9994, -2399, -1308}, impl.ErrNone},
		{impl.Form{1, 6, 18, 19}, impl.Elem{-52, 34, 1}, impl.Elem{9994, -2399, 1308}, impl.ErrNone},
		{impl.Form{1, 0, 0, -65}, impl.Elem{1, -48, 12}, impl.Elem{}, impl.ErrLimit},
		{impl.Form{1, 0, 0, -65}, impl.Elem{-1, 48, -12}, impl.Elem{}, impl.ErrLimit},
		{impl.Form{0, 0, 0, 100}, impl.Elem{1, 0, 10}, impl.Elem{1, 10000, -10}, impl.ErrNone},
		{impl.Form{0, 0, 0, 100}, impl.Elem{1, -1, 10}, impl.Elem{}, impl.ErrLimit},
		{impl.Form{0, 0, 0, -100}, impl.Elem{1, 0, 10}, impl.Elem{1, -10000, -10}, impl.ErrNone},
		{impl.Form{0, 0, 0, -100}, impl.Elem{1, 1, 10}, impl.Elem{}, impl.ErrLimit},
		{impl.Form{100, 0, 0, 0}, impl.Elem{1, 10, 0}, impl.Elem{1, -10, -10000}, impl.ErrNone},
		{impl.Form{100, 0, 0, 0}, impl.Elem{1, 10, 1}, impl.Elem{}, impl.ErrLimit},
		{impl.Form{-100, 0, 0, 0}, impl.Elem{1, 10, 0}, impl.Elem{1, -10, 10000}, impl.ErrNone},
		{impl.Form{-100, 0, 0, 0}, impl.Elem{1, 10, -1}, impl.Elem{}, impl.ErrLimit},
		{impl.Form{100, 0, 0, 0}, impl.Elem{1, 100, 100}, impl.Elem{}, impl.ErrLimit},
	}
	for _, c := range cases {
		got, code := impl.InverseElem(c.f, c.x)
		wantElem(t, "InverseElem", got, code, c.want, c.code)
	}
}

// TestInversesBySearch: the units among small elements are those with the norms 1 and -1, and
// inverses lead to 1, 0, 0 and back.
func TestInversesBySearch(t *testing.T) {
	var units, others int
	for _, f := range append(smallForms(1), ringForms(20)...) {
		for _, x := range elemsWithin(3) {
			got, code := impl.InverseElem(f, x)
			if normByHand(f, x).CmpAbs(big.NewInt(1)) != 0 {
				others++
				wantElem(t, "InverseElem of no unit", got, code, impl.Elem{}, impl.ErrState)
				continue
			}
			units++
			product := productByHand(f, x, got)
			wantElem(t, "x times its inverse", product, code, oneElem, impl.ErrNone)
			if isElemWithin(got, 100) {
				back, code := impl.InverseElem(f, got)
				wantElem(t, "the inverse of the inverse", back, code, x, impl.ErrNone)
			}
		}
	}
	if units < 1000 || others < 1000 {
		t.Errorf("%d units, %d others", units, others)
	}
}

func TestIndexOf(t *testing.T) {
	const most = 1000000000000000
	cases := []struct {
		f    impl.Form
		x    impl.Elem
		want int64
		code int64
	}{
		{impl.Form{1, 0, -1, 1}, impl.Elem{5, 2, 1}, 7, impl.ErrNone},
		{impl.Form{1, 0, -1, 1}, sElem, 1, impl.ErrNone},
		{impl.Form{2, 3, 5, 7}, sElem, 2, impl.ErrNone},
		{impl.Form{2, 3, 5, 7}, tElem, 7, impl.ErrNone},
		{impl.Form{2, 3, 5, 7}, impl.Elem{0, -2, 1}, 7, impl.ErrNone},
		{impl.Form{2, 3, 5, 7}, impl.Elem{10000, 0, 0}, 0, impl.ErrNone},
		{impl.Form{1, 2, 1, 0}, impl.Elem{9, 1, -1}, 0, impl.ErrNone},
		{impl.Form{1, 3, 3, 1}, impl.Elem{2, 3, 4}, 343, impl.ErrNone},
		{impl.Form{}, impl.Elem{10000, 10000, 10000}, 0, impl.ErrNone},
		{impl.Form{1000, 0, 0, 0}, impl.Elem{-3, 10000, 0}, most, impl.ErrNone},
		{impl.Form{1000, 0, 0, 0}, impl.Elem{3, -10000, 10000}, most, impl.ErrNone},
		{impl.Form{0, 0, 0, -1000}, impl.Elem{0, 0, 10000}, most, impl.ErrNone},
		{impl.Form{1000, 0, 0, -1}, impl.Elem{0, 10000, 1}, most - 1, impl.ErrNone},
		{impl.Form{1000, 0, 0, 1}, impl.Elem{0, 10000, 1}, 0, impl.ErrLimit},
		{impl.Form{1000, 0, 0, 1}, impl.Elem{0, -10000, -1}, 0, impl.ErrLimit},
		{impl.Form{-1000, 0, 0, -1}, impl.Elem{0, 10000, 1}, 0, impl.ErrLimit},
		{impl.Form{1000, 1000, 1000, 1000}, impl.Elem{10000, 10000, 10000}, 0, impl.ErrLimit},
		{impl.Form{1000, 1000, 1000, 1000}, impl.Elem{10000, -10000, -10000}, 0, impl.ErrLimit},
		{impl.Form{-1000, 1000, -1000, 1000}, impl.Elem{10000, -10000, 10000}, 0, impl.ErrLimit},
		{impl.Form{1000, 1000, 1000, 1000}, impl.Elem{10000, 10000, -10000}, 0, impl.ErrNone},
	}
	for _, c := range cases {
		n, code := impl.IndexOf(c.f, c.x)
		wantNumber(t, "IndexOf", n, code, c.want, c.code)
	}
}

// TestIndicesAreValues is the first part of the promise 13: indices are determinants with the rows
// of 1, x and x x, and the absolute values of the form.
func TestIndicesAreValues(t *testing.T) {
	forms := mixedForms(100)
	if signs := signsOfDiscriminants(forms); slices.Min(signs[:]) < 5 {
		t.Fatalf("discriminants with signs %v", signs)
	}
	for _, f := range forms {
		for _, x := range slices.Concat(elemsWithin(1), scatteredElems(30, 100), scatteredElems(20, 10000)) {
			square := productByHand(f, x, x)
			want := laplace([][]int64{oneElem[:], x[:], square[:]})
			value, _ := impl.ValueAt(f, x[1], x[2])
			if want.CmpAbs(big.NewInt(value)) != 0 {
				t.Errorf("the determinant for %v in %v is %v, the value %d", x, f, want, value)
			}
			n, code := impl.IndexOf(f, x)
			if want.CmpAbs(big.NewInt(1000000000000000)) > 0 {
				wantNumber(t, "IndexOf", n, code, 0, impl.ErrLimit)
			} else {
				wantNumber(t, "IndexOf", n, code, want.Abs(want).Int64(), impl.ErrNone)
			}
		}
	}
}

func TestDiscriminantOfElem(t *testing.T) {
	cases := []struct {
		f    impl.Form
		x    impl.Elem
		want int64
	}{
		{impl.Form{1, 0, -1, 1}, sElem, -23},
		{impl.Form{1, 0, -1, 1}, impl.Elem{2, 1, 0}, -23},
		{impl.Form{1, 0, -1, 1}, oneElem, 0},
		{impl.Form{1, 1, -2, -1}, impl.Elem{3, -4, 5}, 405769},
		{impl.Form{0, 1, 1, 0}, impl.Elem{3, 4, 5}, 32400},
		{impl.Form{1, 3, 3, 1}, impl.Elem{2, 3, 4}, 0},
		{impl.Form{2, -3, 5, -7}, impl.Elem{-4, 3, -2}, -152685568},
		{impl.Form{}, impl.Elem{7, 8, 9}, 0},
		{impl.Form{10, 10, 10, 10}, impl.Elem{0, 10, 10}, -256000000000000},
		{impl.Form{-10, -10, 0, -10}, impl.Elem{10, -10, -10}, -279000000000000},
		{impl.Form{10, 10, -10, 10}, impl.Elem{10, 10, 10}, -176000000000000},
	}
	for _, c := range cases {
		n, code := impl.DiscriminantOfElem(c.f, c.x)
		wantNumber(t, "DiscriminantOfElem", n, code, c.want, impl.ErrNone)
	}
}

// TestDiscriminantsOfElements is the second part of the promise 13: discriminants of elements are
// those of their polynomials, and the discriminants of the forms times the squares of the indices.
func TestDiscriminantsOfElements(t *testing.T) {
	forms := append(smallForms(1), impl.Form{}, impl.Form{1, 2, 1, 0}, impl.Form{1, 3, 3, 1}, impl.Form{4, 0, -3, 1}, impl.Form{-8, 10, -6, 1}, impl.Form{0, 0, 9, 0})
	for _, f := range ringForms(60) {
		forms = append(forms, impl.Form{f[0] % 11, f[1] % 11, f[2] % 11, f[3] % 11})
	}
	for _, f := range smallForms(1) {
		forms = append(forms, impl.Form{10 * f[0], 10 * f[1], 10 * f[2], 10 * f[3]})
	}
	if signs := signsOfDiscriminants(forms); slices.Min(signs[:]) < 6 {
		t.Fatalf("discriminants with signs %v", signs)
	}
	for _, f := range forms {
		for _, x := range append(elemsWithin(1), scatteredElems(30, 10)...) {
			p, code := impl.PolynomialOf(f, x)
			if len(p) != 4 || code != impl.ErrNone {
				t.Fatalf("PolynomialOf(%v, %v) = %v, %d", f, x, p, code)
			}
			index, _ := impl.IndexOf(f, x)
			want := discriminantByHand(impl.Form(p))
			if product := discriminantByHand(f) * index * index; product != want {
				t.Errorf("%v in %v: discriminant %d, with the index %d", x, f, want, product)
			}
			n, code := impl.DiscriminantOfElem(f, x)
			wantNumber(t, "DiscriminantOfElem", n, code, want, impl.ErrNone)
		}
	}
}

func TestTableOfForm(t *testing.T) {
	cases := []struct {
		f    impl.Form
		want []impl.Elem
		code int64
	}{
		{impl.Form{1, 0, -1, 1}, []impl.Elem{{1, 0, -1}, {-1, 0, 0}, {0, 1, 1}}, impl.ErrNone},
		{impl.Form{2, 3, 5, 7}, []impl.Elem{{-10, 3, -2}, {-14, 0, 0}, {-21, 7, -5}}, impl.ErrNone},
		{impl.Form{}, []impl.Elem{{}, {}, {}}, impl.ErrNone},
		{impl.Form{1000, 1000, 0, 0}, []impl.Elem{{0, 1000, -1000}, {}, {}}, impl.ErrNone},
		{impl.Form{0, 0, -1000, 1000}, []impl.Elem{{}, {}, {0, 1000, 1000}}, impl.ErrNone},
		{impl.Form{100, 100, 100, 100}, []impl.Elem{{-10000, 100, -100}, {-10000, 0, 0}, {-10000, 100, -100}}, impl.ErrNone},
		{impl.Form{-100, -100, 100, 100}, []impl.Elem{{10000, -100, 100}, {10000, 0, 0}, {10000, 100, -100}}, impl.ErrNone},
		// 73 times 137 is 10001.
		{impl.Form{73, 0, 137, 0}, nil, impl.ErrLimit},
		{impl.Form{-73, 0, 137, 0}, nil, impl.ErrLimit},
		{impl.Form{73, 0, 0, 137}, nil, impl.ErrLimit},
		{impl.Form{137, 0, 0, -73}, nil, impl.ErrLimit},
		{impl.Form{0, 73, 0, 137}, nil, impl.ErrLimit},
		{impl.Form{0, 137, 0, -73}, nil, impl.ErrLimit},
		{impl.Form{1000, 1000, 1000, 1000}, nil, impl.ErrLimit},
	}
	for _, c := range cases {
		got, code := impl.TableOfForm(c.f)
		wantTable(t, "TableOfForm", got, code, c.want, c.code)
	}
	for _, f := range ringForms(100) {
		want := []impl.Elem{productByHand(f, sElem, sElem), productByHand(f, sElem, tElem), productByHand(f, tElem, tElem)}
		got, code := impl.TableOfForm(f)
		wantTable(t, "TableOfForm", got, code, want, impl.ErrNone)
	}
}

// TestFormsComeBack is the second part of the promise 4, also from tables of s + h and t + g.
func TestFormsComeBack(t *testing.T) {
	forms := append(smallForms(2), impl.Form{}, impl.Form{1, 2, 1, 0}, impl.Form{1, 3, 3, 1}, impl.Form{4, 0, -3, 1}, impl.Form{-8, 12, -6, 1},
		impl.Form{1000, 1000, 0, 0}, impl.Form{0, 0, -1000, -1000}, impl.Form{31, -32, 31, 31}, impl.Form{-1000, 0, 1, 1}, impl.Form{7, 0, 0, 0}, impl.Form{0, 0, 0, 9})
	if signs := signsOfDiscriminants(forms); slices.Min(signs[:]) < 8 {
		t.Fatalf("discriminants with signs %v", signs)
	}
	for _, f := range forms {
		table, code := impl.TableOfForm(f)
		if code != impl.ErrNone {
			t.Fatalf("TableOfForm(%v): code %d", f, code)
		}
		isRight, code := impl.IsRightTable(table)
		wantBool(t, "IsRightTable", isRight, code, true, impl.ErrNone)
		back, code := impl.FormOfTable(table)
		wantForm(t, "FormOfTable", back, code, f, impl.ErrNone)
	}
	for _, f := range append(smallForms(1), impl.Form{}, impl.Form{1, 3, 3, 1}, impl.Form{2, -3, 5, -7}, impl.Form{-9, 14, 8, 3}) {
		for g := int64(-3); g <= 3; g++ {
			for h := int64(-3); h <= 3; h++ {
				table := shiftedTable(f, g, h)
				isRight, code := impl.IsRightTable(table)
				wantBool(t, "IsRightTable of s + h and t + g", isRight, code, true, impl.ErrNone)
				back, code := impl.FormOfTable(table)
				wantForm(t, "FormOfTable of s + h and t + g", back, code, f, impl.ErrNone)
			}
		}
	}
}

// wantRightness compares both functions of tables with the rule that all right tables are those of
// some s + h and t + g. It returns whether the table is right.
func wantRightness(t *testing.T, table []impl.Elem) bool {
	t.Helper()
	want := isShiftedTable(table)
	isRight, code := impl.IsRightTable(table)
	wantBool(t, "IsRightTable", isRight, code, want, impl.ErrNone)
	f, code := impl.FormOfTable(table)
	if !want {
		wantForm(t, "FormOfTable", f, code, impl.Form{}, impl.ErrState)
	} else if code != impl.ErrNone || !slices.Equal(table, shiftedTable(f, table[1][1], table[1][2])) {
		t.Errorf("FormOfTable(%v) = %v, %d", table, f, code)
	}
	return want
}

// TestRightTablesBySearch looks at all tables of the numbers -1, 0 and 1, and at tables that are
// right but for one number.
func TestRightTablesBySearch(t *testing.T) {
	var right, wrong int
	count := func(isRight bool) {
		if isRight {
			right++
		} else {
			wrong++
		}
	}
	for digits := range int64(19683) {
		table := make([]impl.Elem, 3)
		for i := range int64(9) {
			table[i/3][i%3] = digits%3 - 1
			digits /= 3
		}
		count(wantRightness(t, table))
	}
	for _, f := range append(smallForms(1), impl.Form{}, impl.Form{2, -3, 5, -7}, impl.Form{-9, 14, 8, 3}, impl.Form{0, 20, 0, 0}) {
		for i := range 9 {
			for _, more := range []int64{-2, -1, 1, 500} {
				table := shiftedTable(f, int64(i%4), 2-int64(i%3))
				table[i/3][i%3] += more
				count(wantRightness(t, table))
			}
		}
	}
	if right < 100 || wrong < 10000 {
		t.Errorf("%d right tables, %d others", right, wrong)
	}
}

func TestFormOfTableLimits(t *testing.T) {
	cases := []struct {
		table []impl.Elem
		want  impl.Form
		code  int64
	}{
		{[]impl.Elem{{999, 998, 0}, {0, 0, -1}, {}}, impl.Form{0, 1000, 0, 0}, impl.ErrNone},
		{[]impl.Elem{{1000, 999, 0}, {0, 0, -1}, {}}, impl.Form{}, impl.ErrLimit},
		{[]impl.Elem{{999, -998, 0}, {0, 0, 1}, {}}, impl.Form{0, -1000, 0, 0}, impl.ErrNone},
		{[]impl.Elem{{1000, -999, 0}, {0, 0, 1}, {}}, impl.Form{}, impl.ErrLimit},
		{[]impl.Elem{{}, {0, 1, 0}, {999, 0, -998}}, impl.Form{0, 0, 1000, 0}, impl.ErrNone},
		{[]impl.Elem{{}, {0, 1, 0}, {1000, 0, -999}}, impl.Form{}, impl.ErrLimit},
		{[]impl.Elem{{}, {0, -1, 0}, {999, 0, 998}}, impl.Form{0, 0, -1000, 0}, impl.ErrNone},
		{[]impl.Elem{{}, {0, -1, 0}, {1000, 0, 999}}, impl.Form{}, impl.ErrLimit},
		{[]impl.Elem{{0, 0, -1000}, {}, {}}, impl.Form{1000, 0, 0, 0}, impl.ErrNone},
		{[]impl.Elem{{}, {}, {0, -1000, 0}}, impl.Form{0, 0, 0, -1000}, impl.ErrNone},
		// Not right, and the form would be beyond the limit.
		{[]impl.Elem{{1000, 1000, 0}, {0, 0, -1}, {}}, impl.Form{}, impl.ErrState},
		{[]impl.Elem{{1000, 1000, 1000}, {1000, 1000, -1000}, {1000, 1000, -1000}}, impl.Form{}, impl.ErrState},
	}
	for _, c := range cases {
		isRight, code := impl.IsRightTable(c.table)
		wantBool(t, "IsRightTable", isRight, code, c.code != impl.ErrState, impl.ErrNone)
		f, code := impl.FormOfTable(c.table)
		wantForm(t, "FormOfTable", f, code, c.want, c.code)
	}
}

// TestRangesOfTables: a table has three elements, with numbers of absolute values of at most 1000.
func TestRangesOfTables(t *testing.T) {
	wantRange := func(table []impl.Elem, want int64) {
		t.Helper()
		isRight, code := impl.IsRightTable(table)
		wantBool(t, "IsRightTable", isRight, code, false, want)
		f, code := impl.FormOfTable(table)
		wantForm(t, "FormOfTable", f, code, impl.Form{}, want)
	}
	for _, length := range []int{0, 1, 2, 4, 5, 100} {
		wantRange(make([]impl.Elem, length), impl.ErrRange)
	}
	wantRange(nil, impl.ErrRange)
	good := []impl.Elem{{1, 0, -1}, {-1, 0, 0}, {0, 1, 1}}
	wantRange(append(slices.Clone(good), impl.Elem{}), impl.ErrRange)
	for i := range 9 {
		for _, n := range []int64{1001, -1001, 10000, -10000} {
			table := slices.Clone(good)
			table[i/3][i%3] = n
			wantRange(table, impl.ErrRange)
		}
		// What is no element comes first, also in lists that are not of three.
		for _, n := range outside(10000) {
			table := []impl.Elem{{1001, 0, 0}, {}, {0, 0, 1001}}
			table[i/3][i%3] = n
			wantRange(table, impl.ErrInvalid)
			wantRange(append(table, impl.Elem{}), impl.ErrInvalid)
			wantRange(table[i/3:i/3+1], impl.ErrInvalid)
		}
	}
}

// wantCodeOfElem gives f and x to each function of a form and an element: the code is the one told,
// and all other results are zero values.
func wantCodeOfElem(t *testing.T, f impl.Form, x impl.Elem, want int64) {
	t.Helper()
	n, code := impl.NormOf(f, x)
	wantNumber(t, "NormOf", n, code, 0, want)
	list, code := impl.PolynomialOf(f, x)
	wantList(t, "PolynomialOf", list, code, nil, want)
	y, code := impl.InverseElem(f, x)
	wantElem(t, "InverseElem", y, code, impl.Elem{}, want)
	n, code = impl.DiscriminantOfElem(f, x)
	wantNumber(t, "DiscriminantOfElem", n, code, 0, want)
	if want != impl.ErrInvalid {
		return
	}
	n, code = impl.TraceOf(f, x)
	wantNumber(t, "TraceOf", n, code, 0, want)
	n, code = impl.IndexOf(f, x)
	wantNumber(t, "IndexOf", n, code, 0, want)
	rows, code := impl.MatrixOfElem(f, x)
	wantRows(t, "MatrixOfElem", rows, code, nil, want)
	for _, other := range []impl.Elem{{}, oneElem, {10000, 10000, 10000}, x} {
		y, code = impl.MultiplyElems(f, x, other)
		wantElem(t, "MultiplyElems", y, code, impl.Elem{}, want)
		y, code = impl.MultiplyElems(f, other, x)
		wantElem(t, "MultiplyElems", y, code, impl.Elem{}, want)
	}
}

func TestInvalidInRings(t *testing.T) {
	for i := range 4 {
		for _, n := range outside(1000) {
			bad := impl.Form{101, 0, 0, 1000}
			bad[i] = n
			for _, x := range []impl.Elem{{}, oneElem, {101, 0, 0}, {10000, 10000, 10000}, {10001, 0, 0}} {
				wantCodeOfElem(t, bad, x, impl.ErrInvalid)
			}
			table, code := impl.TableOfForm(bad)
			wantTable(t, "TableOfForm", table, code, nil, impl.ErrInvalid)
		}
	}
	for i := range 3 {
		for _, n := range outside(10000) {
			bad := impl.Elem{101, 10000, 10000}
			bad[i] = n
			for _, f := range []impl.Form{{}, {1, 0, -1, 1}, {101, 0, 0, 0}, {1000, 1000, 1000, 1000}, {1001, 0, 0, 0}} {
				wantCodeOfElem(t, f, bad, impl.ErrInvalid)
			}
			for _, k := range []int64{0, 1, 10000, 10001, math.MinInt64} {
				x, code := impl.AddElems(bad, oneElem, k)
				wantElem(t, "AddElems", x, code, impl.Elem{}, impl.ErrInvalid)
				x, code = impl.AddElems(impl.Elem{10000, 0, 0}, bad, k)
				wantElem(t, "AddElems", x, code, impl.Elem{}, impl.ErrInvalid)
			}
		}
	}
}

// TestRangesOfRings has elements that are no units, and others whose inverses would be beyond the
// limit, so that ErrRange is seen to come first.
func TestRangesOfRings(t *testing.T) {
	ends := impl.Elem{10000, 10000, 10000}
	for _, sign := range []int64{1, -1} {
		for i := range 4 {
			for _, n := range []int64{101 * sign, 1000 * sign} {
				wide := impl.Form{}
				wide[i] = n
				for _, x := range []impl.Elem{{}, oneElem, {1, 10, 10}, {101, 0, 0}, ends} {
					wantCodeOfElem(t, wide, x, impl.ErrRange)
				}
			}
			wide := impl.Form{}
			wide[i] = 11 * sign
			n, code := impl.DiscriminantOfElem(wide, sElem)
			wantNumber(t, "DiscriminantOfElem", n, code, 0, impl.ErrRange)
			wide[i] = 10 * sign
			n, code = impl.DiscriminantOfElem(wide, sElem)
			wantNumber(t, "DiscriminantOfElem", n, code, 0, impl.ErrNone)
			wide[i] = 100 * sign
			inverse, code := impl.InverseElem(wide, oneElem)
			wantElem(t, "InverseElem", inverse, code, oneElem, impl.ErrNone)
			n, code = impl.NormOf(wide, oneElem)
			wantNumber(t, "NormOf", n, code, 1, impl.ErrNone)
		}
		for i := range 3 {
			for _, n := range []int64{101 * sign, 1000 * sign, 10000 * sign} {
				wide := impl.Elem{}
				wide[i] = n
				for _, f := range []impl.Form{{}, {1, 0, -1, 1}, {100, 100, 100, 100}, {1000, 0, 0, 0}} {
					wantCodeOfElem(t, f, wide, impl.ErrRange)
				}
			}
			wide := impl.Elem{}
			wide[i] = 11 * sign
			n, code := impl.DiscriminantOfElem(impl.Form{0, 1, 1, 0}, wide)
			wantNumber(t, "DiscriminantOfElem", n, code, 0, impl.ErrRange)
			wide[i] = 10 * sign
			n, code = impl.DiscriminantOfElem(impl.Form{0, 1, 1, 0}, wide)
			wantNumber(t, "DiscriminantOfElem", n, code, 0, impl.ErrNone)
			wide[i] = 100 * sign
			list, code := impl.PolynomialOf(impl.Form{}, wide)
			wantList(t, "PolynomialOf", list, code, []int64{1, -3 * wide[0], 3 * wide[0] * wide[0], -wide[0] * wide[0] * wide[0]}, impl.ErrNone)
			inverse, code := impl.InverseElem(impl.Form{}, wide)
			wantElem(t, "InverseElem", inverse, code, impl.Elem{}, impl.ErrState)
		}
	}
}

// TestListsOfRingsAreNew: a list that the caller changes is not the one of the next call, rows share
// no memory, and tables and what is behind them stay as they are.
func TestListsOfRingsAreNew(t *testing.T) {
	f := impl.Form{1, 0, -1, 1}
	rows, _ := impl.MatrixOfElem(f, sElem)
	polynomial, _ := impl.PolynomialOf(f, sElem)
	table, _ := impl.TableOfForm(f)
	rows[0] = append(rows[0], 77)
	rows[1] = append(rows[1][:0], 77, 77, 77, 77)
	wantRows(t, "the other rows", [][]int64{rows[0][:3], rows[2]}, 0, [][]int64{{0, 1, 0}, {-1, 0, 0}}, 0)
	polynomial[1], table[1] = 77, impl.Elem{77, 77, 77}
	again, code := impl.MatrixOfElem(f, sElem)
	wantRows(t, "MatrixOfElem again", again, code, [][]int64{{0, 1, 0}, {1, 0, -1}, {-1, 0, 0}}, impl.ErrNone)
	list, code := impl.PolynomialOf(f, sElem)
	wantList(t, "PolynomialOf again", list, code, []int64{1, 0, -1, -1}, impl.ErrNone)
	want := []impl.Elem{{1, 0, -1}, {-1, 0, 0}, {0, 1, 1}}
	fresh, code := impl.TableOfForm(f)
	wantTable(t, "TableOfForm again", fresh, code, want, impl.ErrNone)

	behind := append(slices.Clone(want), impl.Elem{5, 5, 5})
	back, code := impl.FormOfTable(behind[:3])
	wantForm(t, "FormOfTable", back, code, f, impl.ErrNone)
	isRight, code := impl.IsRightTable(behind[:3])
	wantBool(t, "IsRightTable", isRight, code, true, impl.ErrNone)
	wantTable(t, "the table after all", behind, 0, append(slices.Clone(want), impl.Elem{5, 5, 5}), 0)
}
