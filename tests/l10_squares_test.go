package tests

import (
	"math"
	"slices"
	"testing"

	"loop.example/g01342/impl"
)

func compareQuadratics(q, r impl.Quadratic) int { return slices.Compare(q[:], r[:]) }

// discriminantOfSquares takes numbers far from those whose products overflow.
func discriminantOfSquares(q impl.Quadratic) int64 { return q[1]*q[1] - 4*q[0]*q[2] }

// isDefiniteByHand asks for one condition after the other.
func isDefiniteByHand(q impl.Quadratic) bool {
	for _, n := range q {
		if n < -million || n > million {
			return false
		}
	}
	d := discriminantOfSquares(q)
	if d < -2000 || d > -1 || q[0] <= 0 {
		return false
	}
	for k := int64(2); k*k <= 2000; k++ {
		if q[0]%k == 0 && q[1]%k == 0 && q[2]%k == 0 {
			return false
		}
	}
	return true
}

func isReducedByHand(q impl.Quadratic) bool {
	return q[1] > -q[0] && q[1] <= q[0] && q[0] <= q[2] && (q[0] != q[2] || q[1] >= 0)
}

// turnedByHand is q changed by m, from values of q.
func turnedByHand(q impl.Quadratic, m impl.Matrix) impl.Quadratic {
	value := func(x, y int64) int64 { return q[0]*x*x + q[1]*x*y + q[2]*y*y }
	first, last := value(m[0], m[2]), value(m[1], m[3])
	return impl.Quadratic{first, value(m[0]+m[1], m[2]+m[3]) - first - last, last}
}

// reducedByHand takes one small step after the other.
func reducedByHand(q impl.Quadratic) impl.Quadratic {
	for !isReducedByHand(q) {
		switch {
		case q[1] > q[0]:
			q = turnedByHand(q, impl.Matrix{1, -1, 0, 1})
		case q[1] <= -q[0]:
			q = turnedByHand(q, impl.Matrix{1, 1, 0, 1})
		default:
			q = turnedByHand(q, impl.Matrix{0, -1, 1, 0})
		}
	}
	return q
}

// classesByHand tries all numbers that reduced forms can have.
func classesByHand(d int64) []impl.Quadratic {
	var classes []impl.Quadratic
	for p := int64(1); p <= 30; p++ {
		for q := int64(-30); q <= 30; q++ {
			r := (q*q - d) / (4 * p)
			class := impl.Quadratic{p, q, r}
			if discriminantOfSquares(class) == d && isDefiniteByHand(class) && isReducedByHand(class) {
				classes = append(classes, class)
			}
		}
	}
	return classes
}

// discriminantsWithClasses are all d of ClassesOf, each step-th one from -3 downwards.
func discriminantsWithClasses(step int) []int64 {
	var all []int64
	for d := int64(-3); d >= -2000; d-- {
		if restByHand(d, 4) < 2 {
			all = append(all, d)
		}
	}
	var some []int64
	for i := 0; i < len(all); i += step {
		some = append(some, all[i])
	}
	return some
}

// bezout returns the greatest common divisor of m and n, and numbers by which these lead to it.
func bezout(m, n int64) (int64, int64, int64) {
	if n == 0 {
		return m, 1, 0
	}
	divisor, x, y := bezout(n, m%n)
	return divisor, y, x - m/n*y
}

// composedByHand needs no change of the second form: it divides by the common divisor of both first numbers and
// half the sum of the second ones.
func composedByHand(q, r impl.Quadratic) impl.Quadratic {
	d := discriminantOfSquares(q)
	half := (q[1] + r[1]) / 2
	divisor, _, y := bezout(q[0], r[0])
	divisor, x, w := bezout(divisor, half)
	first := q[0] / divisor * (r[0] / divisor)
	if divisor < 0 {
		divisor, x, w = -divisor, -x, -w
	}
	second := r[1] + 2*(r[0]/divisor)*(x*y*(half-r[1])-w*r[2])
	second = restByHand(second, 2*first)
	return reducedByHand(impl.Quadratic{first, second, (second*second - d) / (4 * first)})
}

// composedByRule changes r by m, and tries all B. It is false if the first numbers have a common divisor then.
func composedByRule(q, r impl.Quadratic, m impl.Matrix) (impl.Quadratic, bool) {
	d := discriminantOfSquares(q)
	r = turnedByHand(r, m)
	if divisor, _, _ := bezout(q[0], r[0]); divisor*divisor != 1 {
		return impl.Quadratic{}, false
	}
	for b := int64(0); b < 2*q[0]*r[0]; b++ {
		if (b-q[1])%(2*q[0]) == 0 && (b-r[1])%(2*r[0]) == 0 {
			return reducedByHand(impl.Quadratic{q[0] * r[0], b, (b*b - d) / (4 * q[0] * r[0])}), true
		}
	}
	return impl.Quadratic{}, false
}

func unitByHand(d int64) impl.Quadratic {
	if d%2 == 0 {
		return impl.Quadratic{1, 0, -d / 4}
	}
	return impl.Quadratic{1, 1, (1 - d) / 4}
}

func orderByHand(q impl.Quadratic) int64 {
	order := int64(1)
	for reached := reducedByHand(q); reached != unitByHand(discriminantOfSquares(q)); reached = composedByHand(reached, q) {
		order++
	}
	return order
}

// properMatrices have the determinant 1, and numbers of absolute values of at most n.
func properMatrices(n int64) []impl.Matrix {
	return slices.DeleteFunc(smallMatrices(n), func(m impl.Matrix) bool { return m[0]*m[3]-m[1]*m[2] != 1 })
}

// farMatrices have the determinant 1, and lead from reduced forms to forms with great numbers.
func farMatrices() []impl.Matrix {
	return []impl.Matrix{
		{1, 300, 0, 1}, {1, -200, 0, 1}, {1, 0, 40, 1}, {1, 0, -30, 1}, {40, 39, 1, 1}, {13, 34, 8, 21}, {21, -34, -8, 13}, {-31, -30, 30, 29},
		{0, 1, -1, 300}, {0, -1, 1, -41}, {100, 99, 1, 1}, {7, -24, -2, 7}, {1, 22, 1, 23}, {-20, 19, 1, -1},
	}
}

// rootFormByHand takes a triple form.
func rootFormByHand(f impl.Form) impl.Quadratic {
	a, e, g, d := f[0], f[1]/3, f[2]/3, f[3]
	return impl.Quadratic{e*e - a*g, e*g - a*d, g*g - e*d}
}

// triplesWithin are all forms a, 3 e, 3 g, d with a, e, g and d of absolute values of at most n, in order.
func triplesWithin(n int64) []impl.Form {
	var triples []impl.Form
	for _, m := range smallMatrices(n) {
		triples = append(triples, impl.Form{m[0], 3 * m[1], 3 * m[2], m[3]})
	}
	slices.SortFunc(triples, compareForms)
	return triples
}

func wantQuadratics(t *testing.T, what string, got []impl.Quadratic, code int64, want []impl.Quadratic, wantCode int64) {
	t.Helper()
	if !slices.Equal(got, want) || code != wantCode {
		t.Errorf("%s = %v, %d, want %v, %d", what, got, code, want, wantCode)
	}
}

func wantDefinite(t *testing.T, q impl.Quadratic, want bool) {
	t.Helper()
	is, code := impl.IsDefiniteForm(q)
	if is != want || code != impl.ErrNone {
		t.Errorf("IsDefiniteForm(%v) = %v, %d, want %v", q, is, code, want)
	}
}

func wantReduced(t *testing.T, q, want impl.Quadratic) {
	t.Helper()
	reduced, code := impl.ReduceQuadratic(q)
	if reduced != want || code != impl.ErrNone {
		t.Errorf("ReduceQuadratic(%v) = %v, %d, want %v", q, reduced, code, want)
	}
}

// wantComposed composes in both orders.
func wantComposed(t *testing.T, q, r, want impl.Quadratic) {
	t.Helper()
	composed, code := impl.ComposeQuadratics(q, r)
	other, otherCode := impl.ComposeQuadratics(r, q)
	if composed != want || code != impl.ErrNone || other != want || otherCode != impl.ErrNone {
		t.Errorf("ComposeQuadratics(%v, %v) = %v, %d, and the other way round %v, %d, want %v", q, r, composed, code, other, otherCode, want)
	}
}

// classesTold are the classes of d as the program tells them.
func classesTold(t *testing.T, d int64) []impl.Quadratic {
	t.Helper()
	classes, code := impl.ClassesOf(d)
	if code != impl.ErrNone || len(classes) == 0 {
		t.Fatalf("ClassesOf(%d) = %v, %d", d, classes, code)
	}
	return classes
}

// composedTold is the composition as the program tells it.
func composedTold(t *testing.T, q, r impl.Quadratic) impl.Quadratic {
	t.Helper()
	composed, code := impl.ComposeQuadratics(q, r)
	if code != impl.ErrNone {
		t.Fatalf("ComposeQuadratics(%v, %v): code %d", q, r, code)
	}
	return composed
}

func TestMaxClassed(t *testing.T) {
	if impl.MaxClassed != 2000 {
		t.Errorf("MaxClassed is %d", impl.MaxClassed)
	}
}

// farForms are definite forms with numbers near 1000000, each with its reduced form.
var farForms = [][2]impl.Quadratic{
	{{5, 4472, 1000000}, {5, 2, 61}},
	{{1000000, 4472, 5}, {5, -2, 61}},
	{{1000000, -4472, 5}, {5, 2, 61}},
	{{73, 17088, 1000000}, {1, 0, 64}},
	{{1000000, -20199, 102}, {1, 1, 100}},
	{{335, 36606, 1000000}, {8, -6, 25}},
	{{335, -36606, 1000000}, {8, 6, 25}},
	{{260, 32249, 1000000}, {2, -1, 250}},
	{{244690, 989323, 1000000}, {16, 11, 28}},
	{{1000000, 996536, 248271}, {12, -4, 15}},
	{{1000000, -996536, 248271}, {12, 4, 15}},
	{{492875, 1000000, 507228}, {8, 4, 63}},
	{{492875, -1000000, 507228}, {8, -4, 63}},
	{{424472, 1000000, 588967}, {20, 12, 23}},
	{{393769, -1000000, 634890}, {10, 0, 41}},
	// 22 divides P, and has a common divisor with the first values of 2, 1, 250.
	{{999988, 98081, 2405}, {10, 9, 52}},
	{{999988, 401913, 40384}, {22, -5, 23}},
	{{999988, 870799, 189575}, {22, 17, 26}},
	{{999680, 195079, 9517}, {1, 1, 500}},
	{{999680, 594951, 88520}, {20, -1, 25}},
}

// beyondForms would be definite, but for one number of an absolute value of 1000001.
var beyondForms = []impl.Quadratic{
	{1, 2000, 1000001}, {1000001, 2000, 1}, {1000001, -2000, 1}, {3, 3464, 1000001}, {249501, 999002, 1000001}, {1000001, -998269, 249135},
	{449769, 1000001, 555842}, {449769, -1000001, 555842}, {446735, 1000001, 559617}, {498422, -1000001, 501584},
}

// TestIsDefiniteForm breaks each condition by itself.
func TestIsDefiniteForm(t *testing.T) {
	for _, q := range []impl.Quadratic{
		{2, 1, 3}, {3, -1, 2}, {1, 0, 1}, {1, 1, 1}, {1, -1, 1}, {1, 2, 2}, {6, 0, 5}, {10, 10, 13}, {6, 10, 15}, {1, 1000, 250001}, {1, -999, 249501},
		// The least discriminants, and the greatest ones.
		{1, 0, 500}, {1, 1, 500}, {21, -10, 25}, {1, 2, 501}, {4, 0, 125}, {3, 3, 1}, {1, 4, 5},
		// Common divisors of two numbers alone.
		{2, 2, 3}, {2, 3, 4}, {3, 6, 5}, {2, 6, 7}, {7, 2, 2}, {6, 5, 3},
	} {
		wantDefinite(t, q, true)
	}
	for _, q := range []impl.Quadratic{
		// The discriminant is 0, greater than 0, or less than -2000.
		{1, 0, 0}, {1, 2, 1}, {4, 4, 1}, {1, 2000, 1000000}, {1, 1, 0}, {1, 0, -1}, {1, 3, 1}, {2, 1, -3}, {1000000, 0, -1},
		{1, 0, 501}, {1, 1, 501}, {4, 2, 126}, {3, 1, 167}, {1, 0, 1000000}, {1000000, 999999, 1000000}, {1000000, 1, 1}, {100000, 0, 100001},
		// P is less than 0, or R as well.
		{-2, 1, -3}, {-1, 0, -1}, {-1, 1, -1}, {-1, 0, -500}, {-5, -4472, -1000000}, {-3, 2, -2},
		// A common divisor greater than 1.
		{2, 0, 2}, {2, 2, 2}, {3, 3, 6}, {4, 2, 6}, {5, 0, 10}, {7, 7, 7}, {6, 6, 12}, {22, 0, 22}, {25, 25, 25}, {23, 0, 23}, {4, 4, 4},
		// More than one of these.
		{}, {0, 1, 0}, {0, 0, 1}, {0, 2, -1}, {-2, 0, -2}, {-1, 5, 1}, {trillion, trillion, trillion}, {-trillion, trillion, -trillion},
		{trillion, 0, 1}, {1, trillion, 0}, {1, 0, trillion}, {1 << 31, 0, 1 << 31}, {1 << 31, 2, 1 << 31},
	} {
		wantDefinite(t, q, false)
	}
	for _, c := range farForms {
		wantDefinite(t, c[0], true)
	}
	for _, q := range beyondForms {
		if d := discriminantOfSquares(q); d < -2000 || d > -1 {
			t.Errorf("%v has the discriminant %d", q, d)
		}
		wantDefinite(t, q, false)
	}
}

// quadraticsWithin are all quadratic forms with numbers of absolute values of at most n.
func quadraticsWithin(n int64) []impl.Quadratic {
	var all []impl.Quadratic
	for p := -n; p <= n; p++ {
		for q := -n; q <= n; q++ {
			for r := -n; r <= n; r++ {
				all = append(all, impl.Quadratic{p, q, r})
			}
		}
	}
	return all
}

// TestDefiniteFormsByHand is for all forms with small numbers.
func TestDefiniteFormsByHand(t *testing.T) {
	var counts [2]int
	for _, q := range quadraticsWithin(12) {
		want := isDefiniteByHand(q)
		wantDefinite(t, q, want)
		if !want {
			reduced, code := impl.ReduceQuadratic(q)
			wantQuadratic(t, "ReduceQuadratic", reduced, code, impl.Quadratic{}, impl.ErrRange)
			counts[0]++
			continue
		}
		counts[1]++
		wantReduced(t, q, reducedByHand(q))
	}
	if slices.Min(counts[:]) < 1000 {
		t.Errorf("forms that are not definite, and others: %v", counts)
	}
}

// TestReduceQuadratic is at each border of reduced forms, on it and beyond.
func TestReduceQuadratic(t *testing.T) {
	for _, c := range [][2]impl.Quadratic{
		{{3, -1, 2}, {2, 1, 3}}, {{2, 1, 3}, {2, 1, 3}}, {{2, -1, 3}, {2, -1, 3}},
		// Q is P, and -P.
		{{2, 2, 3}, {2, 2, 3}}, {{2, -2, 3}, {2, 2, 3}}, {{3, 3, 4}, {3, 3, 4}}, {{3, -3, 4}, {3, 3, 4}}, {{1, 1, 6}, {1, 1, 6}}, {{1, -1, 6}, {1, 1, 6}},
		// Q is beyond P by one, and just above -P.
		{{2, 3, 4}, {2, -1, 3}}, {{2, -3, 4}, {2, 1, 3}}, {{4, -3, 5}, {4, -3, 5}}, {{4, 3, 5}, {4, 3, 5}}, {{4, 5, 6}, {4, -3, 5}}, {{4, -5, 6}, {4, 3, 5}},
		// P is R, with Q of both signs and 0.
		{{2, 1, 2}, {2, 1, 2}}, {{2, -1, 2}, {2, 1, 2}}, {{3, 2, 3}, {3, 2, 3}}, {{3, -2, 3}, {3, 2, 3}}, {{1, 0, 1}, {1, 0, 1}}, {{6, 5, 6}, {6, 5, 6}}, {{6, -5, 6}, {6, 5, 6}},
		// P is R and Q.
		{{1, 1, 1}, {1, 1, 1}}, {{1, -1, 1}, {1, 1, 1}},
		// P is greater than R, by one and by more.
		{{3, 1, 2}, {2, -1, 3}}, {{3, 2, 2}, {2, 2, 3}}, {{3, -2, 2}, {2, 2, 3}}, {{500, 0, 1}, {1, 0, 500}}, {{500, 1, 1}, {1, 1, 500}}, {{25, 10, 21}, {21, -10, 25}},
		{{5, 4, 1}, {1, 0, 1}}, {{1, 4, 5}, {1, 0, 1}}, {{1, 2, 2}, {1, 0, 1}}, {{7, 5, 1}, {1, 1, 1}}, {{1, 1000, 250001}, {1, 0, 1}}, {{1, -999, 249501}, {1, 1, 1}},
	} {
		wantReduced(t, c[0], c[1])
	}
	for _, c := range farForms {
		wantReduced(t, c[0], c[1])
	}
}

// TestReducedFormsOfChangedForms: properly equivalent forms have the same reduced form, and this is in their
// classes. Changed by matrices with the determinant -1 they have that of the inverse.
func TestReducedFormsOfChangedForms(t *testing.T) {
	matrices := append(properMatrices(2), farMatrices()...)
	near := 0
	for _, d := range discriminantsWithClasses(2) {
		classes := classesTold(t, d)
		for i, class := range classes {
			wantReduced(t, class, class)
			for k, m := range matrices {
				if m[0]*m[3]-m[1]*m[2] != 1 {
					t.Fatalf("%v has another determinant", m)
				}
				q := turnedByHand(class, m)
				if (i+k)%3 > 0 || !isDefiniteByHand(q) {
					continue
				}
				wantReduced(t, q, class)
				wantReduced(t, turnedByHand(q, impl.Matrix{0, 1, 1, 0}), reducedByHand(impl.Quadratic{class[0], -class[1], class[2]}))
				if slices.Max(q[:]) > 100000 {
					near++
				}
			}
		}
	}
	if near < 100 {
		t.Errorf("only %d forms with great numbers", near)
	}
}

func TestClassesOf(t *testing.T) {
	for d, want := range map[int64][]impl.Quadratic{
		-23:  {{1, 1, 6}, {2, -1, 3}, {2, 1, 3}},
		-3:   {{1, 1, 1}},
		-4:   {{1, 0, 1}},
		-7:   {{1, 1, 2}},
		-8:   {{1, 0, 2}},
		-12:  {{1, 0, 3}},
		-15:  {{1, 1, 4}, {2, 1, 2}},
		-16:  {{1, 0, 4}},
		-20:  {{1, 0, 5}, {2, 2, 3}},
		-27:  {{1, 1, 7}},
		-32:  {{1, 0, 8}, {3, 2, 3}},
		-39:  {{1, 1, 10}, {2, -1, 5}, {2, 1, 5}, {3, 3, 4}},
		-56:  {{1, 0, 14}, {2, 0, 7}, {3, -2, 5}, {3, 2, 5}},
		-71:  {{1, 1, 18}, {2, -1, 9}, {2, 1, 9}, {3, -1, 6}, {3, 1, 6}, {4, -3, 5}, {4, 3, 5}},
		-84:  {{1, 0, 21}, {2, 2, 11}, {3, 0, 7}, {5, 4, 5}},
		-108: {{1, 0, 27}, {4, -2, 7}, {4, 2, 7}},
		-143: {{1, 1, 36}, {2, -1, 18}, {2, 1, 18}, {3, -1, 12}, {3, 1, 12}, {4, -1, 9}, {4, 1, 9}, {6, -5, 7}, {6, 1, 6}, {6, 5, 7}},
		-163: {{1, 1, 41}},
		-1999: {
			{1, 1, 500}, {2, -1, 250}, {2, 1, 250}, {4, -1, 125}, {4, 1, 125}, {5, -1, 100}, {5, 1, 100}, {8, -7, 64}, {8, 7, 64}, {10, -9, 52}, {10, -1, 50},
			{10, 1, 50}, {10, 9, 52}, {11, -5, 46}, {11, 5, 46}, {13, -9, 40}, {13, 9, 40}, {16, -7, 32}, {16, 7, 32}, {20, -9, 26}, {20, -1, 25}, {20, 1, 25},
			{20, 9, 26}, {22, -17, 26}, {22, -5, 23}, {22, 5, 23}, {22, 17, 26},
		},
		-2000: {
			{1, 0, 500}, {3, -2, 167}, {3, 2, 167}, {4, 0, 125}, {7, -4, 72}, {7, 4, 72}, {8, -4, 63}, {8, 4, 63}, {9, -4, 56}, {9, 4, 56}, {12, -8, 43},
			{12, 8, 43}, {21, -10, 25}, {21, -4, 24}, {21, 4, 24}, {21, 10, 25}, {23, -22, 27}, {23, 22, 27}, {24, -20, 25}, {24, 20, 25},
		},
	} {
		classes, code := impl.ClassesOf(d)
		wantQuadratics(t, "ClassesOf", classes, code, want, impl.ErrNone)
	}
	if n := len(classesTold(t, -1991)); n != 56 {
		t.Errorf("-1991 has %d classes", n)
	}
}

// TestClassesByHand is for all d, and finds those with one class alone.
func TestClassesByHand(t *testing.T) {
	var single []int64
	for _, d := range discriminantsWithClasses(1) {
		classes := classesTold(t, d)
		wantQuadratics(t, "ClassesOf", classes, impl.ErrNone, classesByHand(d), impl.ErrNone)
		if !isStrictlyAscending(classes, compareQuadratics) || classes[0] != unitByHand(d) {
			t.Errorf("ClassesOf(%d) = %v", d, classes)
		}
		for _, class := range classes {
			wantDefinite(t, class, true)
			if got, code := impl.QuadraticDiscriminant(class); got != d || code != impl.ErrNone {
				t.Errorf("ClassesOf(%d) has %v, with the discriminant %d", d, class, got)
			}
		}
		if len(classes) == 1 {
			single = append(single, d)
		}
	}
	if !slices.Equal(single, []int64{-3, -4, -7, -8, -11, -12, -16, -19, -27, -28, -43, -67, -163}) {
		t.Errorf("one class alone for %v", single)
	}
}

// numberOfClasses is told by the characters of chapter 9: for the d of a resolvent by a sum of them, and for d F F
// by the characters at the prime numbers of F.
func numberOfClasses(t *testing.T, n int64) int64 {
	t.Helper()
	d, root, code := impl.ResolventOf(n)
	if code != impl.ErrNone {
		t.Fatalf("ResolventOf(%d): code %d", n, code)
	}
	var sum int64
	for k := int64(1); k < -d; k++ {
		character, _ := impl.CharacterAt(d, k)
		sum -= k * character
	}
	// There are two units, but six for -3 and four for -4, and two for F greater than 1.
	pairs := max(map[int64]int64{-3: 3, -4: 2}[d], 1)
	number := sum * pairs / -d * root
	for q := int64(2); q <= root; q++ {
		if character, _ := impl.CharacterAt(d, q); isPrimeByHand(q) && root%q == 0 {
			number = number / q * (q - character)
		}
	}
	if root > 1 {
		number /= pairs
	}
	return number
}

func TestNumbersOfClasses(t *testing.T) {
	for _, d := range discriminantsWithClasses(1) {
		if n := numberOfClasses(t, d); int64(len(classesTold(t, d))) != n {
			t.Errorf("ClassesOf(%d) has %d classes, and %d by the characters", d, len(classesTold(t, d)), n)
		}
	}
}

// TestNoClasses is for d out of range, or with another rest.
func TestNoClasses(t *testing.T) {
	all := []int64{
		0, 1, 4, 5, 23, 2000, -1, -2, -5, -6, -9, -10, -21, -22, -1997, -1998, -2001, -2002, -2003, -2004, -2007, -2008, -4000, -million, -million + 1,
		math.MaxInt64, math.MinInt64, math.MinInt64 + 1, -1 << 32, 1 << 32, -1<<32 - 23,
	}
	for d := int64(-2000); d < 0; d++ {
		if restByHand(d, 4) > 1 {
			all = append(all, d)
		}
	}
	for _, d := range all {
		classes, code := impl.ClassesOf(d)
		wantQuadratics(t, "ClassesOf", classes, code, nil, impl.ErrRange)
		roots, code := impl.ThirdRoots(d)
		wantQuadratics(t, "ThirdRoots", roots, code, nil, impl.ErrRange)
	}
}

func TestComposeQuadratics(t *testing.T) {
	for _, c := range [][3]impl.Quadratic{
		// With itself, with the inverse, and with the unit.
		{{2, 1, 3}, {2, 1, 3}, {2, -1, 3}}, {{2, 1, 3}, {2, -1, 3}, {1, 1, 6}}, {{2, 1, 3}, {1, 1, 6}, {2, 1, 3}}, {{2, -1, 3}, {2, -1, 3}, {2, 1, 3}},
		{{2, 1, 6}, {2, 1, 6}, {3, -1, 4}}, {{2, 1, 6}, {2, -1, 6}, {1, 1, 12}}, {{3, 1, 4}, {2, 1, 6}, {2, -1, 6}}, {{3, -1, 4}, {2, 1, 6}, {3, 1, 4}},
		{{1, 0, 1}, {1, 0, 1}, {1, 0, 1}}, {{1, 1, 1}, {1, 1, 1}, {1, 1, 1}}, {{2, 2, 3}, {2, 2, 3}, {1, 0, 5}}, {{2, 0, 3}, {2, 0, 3}, {1, 0, 6}},
		// First numbers with a common divisor, of one prime number and of two.
		{{6, 1, 6}, {6, 1, 6}, {1, 1, 36}}, {{6, 5, 7}, {6, 1, 6}, {4, 1, 9}}, {{6, 5, 7}, {6, -5, 7}, {1, 1, 36}}, {{6, 5, 7}, {6, 5, 7}, {3, 1, 12}},
		{{2, 2, 11}, {3, 0, 7}, {5, 4, 5}}, {{5, 4, 5}, {2, 2, 11}, {3, 0, 7}}, {{5, 4, 5}, {5, 4, 5}, {1, 0, 21}}, {{6, 6, 19}, {10, 10, 13}, {7, 0, 15}},
		// Forms that are not reduced.
		{{3, -1, 2}, {2, 5, 6}, {2, -1, 3}}, {{1, 2, 2}, {5, 4, 1}, {1, 0, 1}}, {{1, 2, 2}, {1, 0, 1}, {1, 0, 1}},
		{{492875, 1000000, 507228}, {492875, -1000000, 507228}, {1, 0, 500}}, {{492875, 1000000, 507228}, {1, 0, 500}, {8, 4, 63}},
		{{492875, 1000000, 507228}, {492875, 1000000, 507228}, {4, 0, 125}}, {{5, 4472, 1000000}, {1000000, 4472, 5}, {1, 0, 304}},
	} {
		if want := composedByHand(reducedByHand(c[0]), reducedByHand(c[1])); want != c[2] {
			t.Errorf("%v and %v are %v by hand, and not %v", c[0], c[1], want, c[2])
		}
		wantComposed(t, c[0], c[1], c[2])
	}
}

// TestCompositionsByHand is the first part of the promise 10, over all pairs of classes of all d.
func TestCompositionsByHand(t *testing.T) {
	common := 0
	for _, d := range discriminantsWithClasses(1) {
		classes := classesTold(t, d)
		for i, q := range classes {
			for _, r := range classes[i:] {
				wantComposed(t, q, r, composedByHand(q, r))
				if !isPrimitiveByHand(q[0], r[0]) {
					common++
				}
			}
			wantComposed(t, q, unitByHand(d), q)
			wantComposed(t, q, reducedByHand(impl.Quadratic{q[0], -q[1], q[2]}), unitByHand(d))
		}
	}
	if common < 10000 {
		t.Errorf("only %d pairs of first numbers with a common divisor", common)
	}
}

// TestCompositionsOfFarForms composes forms with great numbers with all classes, and with each other.
func TestCompositionsOfFarForms(t *testing.T) {
	for _, c := range farForms {
		far, class := c[0], c[1]
		for _, other := range classesTold(t, discriminantOfSquares(far)) {
			wantComposed(t, far, other, composedByHand(class, other))
		}
		wantComposed(t, far, far, composedByHand(class, class))
		wantComposed(t, far, impl.Quadratic{far[2], far[1], far[0]}, unitByHand(discriminantOfSquares(far)))
	}
}

// TestCompositionsByRule: the composition does not depend on the matrix by which the second form is changed, nor on
// the forms of the classes.
func TestCompositionsByRule(t *testing.T) {
	matrices := properMatrices(2)
	count := 0
	for _, d := range discriminantsWithClasses(20) {
		classes := classesTold(t, d)
		for i, q := range classes {
			for k, r := range classes {
				for l, m := range matrices {
					if (i+k+l)%5 > 0 {
						continue
					}
					want, canBe := composedByRule(q, r, m)
					if canBe {
						wantComposed(t, q, r, want)
						wantComposed(t, turnedByHand(q, matrices[(l+3)%len(matrices)]), turnedByHand(r, m), want)
						count++
					}
				}
			}
		}
	}
	if count < 5000 {
		t.Errorf("only %d compositions", count)
	}
}

// TestCompositionsAreGrouped: three forms are composed with either two first.
func TestCompositionsAreGrouped(t *testing.T) {
	for _, d := range []int64{-23, -84, -95, -231, -420, -972, -1228, -1836, -1999, -2000} {
		classes := classesTold(t, d)
		for i, q := range classes {
			r, s := classes[(3*i+1)%len(classes)], classes[(5*i+2)%len(classes)]
			left := composedTold(t, composedTold(t, q, r), s)
			right := composedTold(t, q, composedTold(t, r, s))
			if left != right {
				t.Errorf("%v, %v and %v are composed to %v and to %v", q, r, s, left, right)
			}
			// Each class is reached from q just once.
			reached := map[impl.Quadratic]bool{}
			for _, other := range classes {
				reached[composedTold(t, q, other)] = true
			}
			if len(reached) != len(classes) {
				t.Errorf("%v leads to %d classes of %d", q, len(reached), d)
			}
		}
	}
}

// TestValuesOfCompositions: the product of a value of each form is a value of the composition.
func TestValuesOfCompositions(t *testing.T) {
	for _, d := range []int64{-20, -23, -47, -84, -143} {
		classes := classesTold(t, d)
		for i, q := range classes {
			r := classes[(2*i+1)%len(classes)]
			composed := composedTold(t, q, r)
			values := map[int64]bool{}
			for _, at := range boxByHand(60) {
				value, _ := impl.QuadraticAt(composed, at[0], at[1])
				values[value] = true
			}
			for _, at := range boxByHand(2) {
				for _, to := range boxByHand(2) {
					first, _ := impl.QuadraticAt(q, at[0], at[1])
					second, _ := impl.QuadraticAt(r, to[0], to[1])
					if first*second < 500 && !values[first*second] {
						t.Errorf("%v has no value %d, but %v and %v have %d and %d", composed, first*second, q, r, first, second)
					}
				}
			}
		}
	}
}

func TestOrderOfQuadratic(t *testing.T) {
	for _, c := range []struct {
		q    impl.Quadratic
		want int64
	}{
		{impl.Quadratic{1, 0, 1}, 1}, {impl.Quadratic{1, 1, 1}, 1}, {impl.Quadratic{1, 1, 6}, 1}, {impl.Quadratic{1, 0, 500}, 1}, {impl.Quadratic{1, 1, 500}, 1},
		{impl.Quadratic{2, 2, 3}, 2}, {impl.Quadratic{2, 1, 2}, 2}, {impl.Quadratic{3, 3, 4}, 2}, {impl.Quadratic{5, 4, 5}, 2}, {impl.Quadratic{4, 0, 125}, 2},
		{impl.Quadratic{2, 1, 3}, 3}, {impl.Quadratic{2, -1, 3}, 3}, {impl.Quadratic{4, 3, 6}, 3}, {impl.Quadratic{8, -7, 64}, 3}, {impl.Quadratic{13, 4, 19}, 3},
		{impl.Quadratic{2, 1, 5}, 4}, {impl.Quadratic{8, 4, 63}, 4}, {impl.Quadratic{2, 1, 6}, 5}, {impl.Quadratic{2, 1, 11}, 6}, {impl.Quadratic{4, 3, 5}, 7},
		{impl.Quadratic{2, -1, 12}, 8}, {impl.Quadratic{2, 1, 250}, 9}, {impl.Quadratic{23, 22, 27}, 20}, {impl.Quadratic{5, 1, 100}, 27}, {impl.Quadratic{2, 1, 249}, 56},
		// Forms that are not reduced have the orders of their classes.
		{impl.Quadratic{1, 2, 2}, 1}, {impl.Quadratic{5, 4, 1}, 1}, {impl.Quadratic{73, 17088, 1000000}, 1}, {impl.Quadratic{1000000, -20199, 102}, 1},
		{impl.Quadratic{2, -2, 3}, 2}, {impl.Quadratic{2, -1, 2}, 2}, {impl.Quadratic{3, -1, 2}, 3}, {impl.Quadratic{2, 5, 6}, 3}, {impl.Quadratic{492875, 1000000, 507228}, 4},
	} {
		order, code := impl.OrderOfQuadratic(c.q)
		wantNumber(t, "OrderOfQuadratic", order, code, c.want, impl.ErrNone)
	}
	for _, c := range farForms {
		order, code := impl.OrderOfQuadratic(c[0])
		wantNumber(t, "OrderOfQuadratic", order, code, orderByHand(c[1]), impl.ErrNone)
	}
}

// TestOrdersDivideNumbersOfClasses is the second part of the promise 10, for all classes of all d.
func TestOrdersDivideNumbersOfClasses(t *testing.T) {
	seen := map[int64]bool{}
	for i, d := range discriminantsWithClasses(1) {
		classes := classesTold(t, d)
		for k, class := range classes {
			order, code := impl.OrderOfQuadratic(class)
			if code != impl.ErrNone || order < 1 || int64(len(classes))%order != 0 {
				t.Errorf("OrderOfQuadratic(%v) = %d, %d, and there are %d classes", class, order, code, len(classes))
			}
			if (i+k)%10 == 0 {
				wantNumber(t, "OrderOfQuadratic", order, code, orderByHand(class), impl.ErrNone)
				other, code := impl.OrderOfQuadratic(turnedByHand(class, impl.Matrix{2, 1, 1, 1}))
				wantNumber(t, "OrderOfQuadratic", other, code, order, impl.ErrNone)
			}
			seen[order] = true
		}
	}
	for order := range int64(30) {
		if order > 0 && !seen[order] {
			t.Errorf("no class has the order %d", order)
		}
	}
}

func TestThirdRoots(t *testing.T) {
	for d, want := range map[int64][]impl.Quadratic{
		-3: {{1, 1, 1}}, -4: {{1, 0, 1}}, -20: {{1, 0, 5}}, -39: {{1, 1, 10}}, -47: {{1, 1, 12}}, -84: {{1, 0, 21}}, -2000: {{1, 0, 500}}, -1991: {{1, 1, 498}},
		-23:   {{1, 1, 6}, {2, -1, 3}, {2, 1, 3}},
		-44:   {{1, 0, 11}, {3, -2, 4}, {3, 2, 4}},
		-87:   {{1, 1, 22}, {4, -3, 6}, {4, 3, 6}},
		-104:  {{1, 0, 26}, {3, -2, 9}, {3, 2, 9}},
		-108:  {{1, 0, 27}, {4, -2, 7}, {4, 2, 7}},
		-1999: {{1, 1, 500}, {8, -7, 64}, {8, 7, 64}},
		-972:  {{1, 0, 243}, {4, -2, 61}, {4, 2, 61}, {7, -6, 36}, {7, 6, 36}, {9, -6, 28}, {9, 6, 28}, {13, -4, 19}, {13, 4, 19}},
	} {
		roots, code := impl.ThirdRoots(d)
		wantQuadratics(t, "ThirdRoots", roots, code, want, impl.ErrNone)
	}
}

// TestThirdRootsByHand is for all d: third roots are the classes with the orders 1 and 3, no others.
func TestThirdRootsByHand(t *testing.T) {
	counts := map[int]int{}
	for _, d := range discriminantsWithClasses(1) {
		var want []impl.Quadratic
		for _, class := range classesTold(t, d) {
			order, _ := impl.OrderOfQuadratic(class)
			if composedByHand(composedByHand(class, class), class) == unitByHand(d) {
				want = append(want, class)
				if order != 1 && order != 3 {
					t.Errorf("the third root %v of %d has the order %d", class, d, order)
				}
			} else if order == 1 || order == 3 {
				t.Errorf("%v is no third root of %d, but has the order %d", class, d, order)
			}
		}
		roots, code := impl.ThirdRoots(d)
		wantQuadratics(t, "ThirdRoots", roots, code, want, impl.ErrNone)
		counts[len(roots)]++
	}
	if len(counts) != 3 || counts[1] < 100 || counts[3] < 100 || counts[9] != 4 {
		t.Errorf("numbers of third roots: %v", counts)
	}
}

func TestRootForm(t *testing.T) {
	for _, c := range []struct {
		f    impl.Form
		want impl.Quadratic
	}{
		{impl.Form{1, 3, 0, -1}, impl.Quadratic{1, 1, 1}},
		{impl.Form{1, 3, -3, -2}, impl.Quadratic{2, 1, 3}},
		{impl.Form{-1, -3, 3, 2}, impl.Quadratic{2, 1, 3}},
		{impl.Form{1, -3, -3, 2}, impl.Quadratic{2, -1, 3}},
		{impl.Form{1, 0, -3, 0}, impl.Quadratic{1, 0, 1}},
		{impl.Form{3, 9, 6, 1}, impl.Quadratic{3, 3, 1}},
		{impl.Form{2, 3, 3, 5}, impl.Quadratic{-1, -9, -4}},
		// Root forms that are not definite: with discriminants of at least 0, P less than 0, or a common divisor.
		{impl.Form{}, impl.Quadratic{}}, {impl.Form{1, 0, 0, 0}, impl.Quadratic{}}, {impl.Form{1, 3, 3, 1}, impl.Quadratic{}}, {impl.Form{1, 0, 0, 1}, impl.Quadratic{0, -1, 0}},
		{impl.Form{7, 0, 0, -5}, impl.Quadratic{0, 35, 0}}, {impl.Form{1, 3, 0, 0}, impl.Quadratic{1, 0, 0}}, {impl.Form{0, 0, -3, 4}, impl.Quadratic{0, 0, 1}},
		{impl.Form{1, 0, 3, 0}, impl.Quadratic{-1, 0, 1}}, {impl.Form{2, 6, 0, -2}, impl.Quadratic{4, 4, 4}}, {impl.Form{5, 0, -300, 0}, impl.Quadratic{500, 0, 10000}},
		// The numbers of greatest absolute values.
		{impl.Form{1000, 999, 999, 1000}, impl.Quadratic{-222111, -889111, -222111}}, {impl.Form{-1000, 999, 999, 1000}, impl.Quadratic{443889, 1110889, -222111}},
		{impl.Form{1000, 0, 0, -1000}, impl.Quadratic{0, 1000000, 0}}, {impl.Form{1000, -999, 999, -1000}, impl.Quadratic{-222111, 889111, -222111}},
		{impl.Form{1000, 999, -999, -1000}, impl.Quadratic{443889, 889111, 443889}}, {impl.Form{1000, 0, 0, 1000}, impl.Quadratic{0, -1000000, 0}},
	} {
		is, code := impl.IsTriple(c.f)
		wantBool(t, "IsTriple", is, code, true, impl.ErrNone)
		q, code := impl.RootForm(c.f)
		wantQuadratic(t, "RootForm", q, code, c.want, impl.ErrNone)
	}
}

// TestNotTriple: 3 must divide b and c, and need not divide a and d.
func TestNotTriple(t *testing.T) {
	for _, f := range []impl.Form{
		{1, 0, -1, 1}, {0, 1, 0, 0}, {0, 0, 1, 0}, {1, 3, 1, 1}, {1, 1, 3, 1}, {3, 2, 6, 3}, {3, 6, -2, 3}, {1, -1, 3, 1}, {1000, 1000, 999, 1000}, {1000, 999, 1000, 1000},
		{-1000, -1000, -999, 0}, {0, 999, -1000, 0}, {3, 1, 2, 3}, {0, 1, -1, 0}, {9, 3, 998, 9}, {9, 998, 3, 9},
	} {
		is, code := impl.IsTriple(f)
		wantBool(t, "IsTriple", is, code, false, impl.ErrNone)
		q, code := impl.RootForm(f)
		wantQuadratic(t, "RootForm", q, code, impl.Quadratic{}, impl.ErrState)
	}
	for _, f := range mixedForms(300) {
		want := f[1]%3 == 0 && f[2]%3 == 0
		is, code := impl.IsTriple(f)
		wantBool(t, "IsTriple", is, code, want, impl.ErrNone)
		q, code := impl.RootForm(f)
		if want {
			wantQuadratic(t, "RootForm", q, code, rootFormByHand(f), impl.ErrNone)
		} else {
			wantQuadratic(t, "RootForm", q, code, impl.Quadratic{}, impl.ErrState)
		}
	}
}

// TestRootFormsAreThirdRoots is the second part of the promise 14. All root forms have the discriminant of the cubic
// form, divided by -27.
func TestRootFormsAreThirdRoots(t *testing.T) {
	roots := map[int64][]impl.Quadratic{}
	var counts [3]int
	for _, f := range triplesWithin(5) {
		q, code := impl.RootForm(f)
		wantQuadratic(t, "RootForm", q, code, rootFormByHand(f), impl.ErrNone)
		d, _ := impl.QuadraticDiscriminant(q)
		if discriminant, code := impl.DiscriminantOf(f); discriminant != -27*d || code != impl.ErrNone {
			t.Errorf("%v has the discriminant %d, and its root form %v has %d", f, discriminant, q, d)
		}
		if is, _ := impl.IsDefiniteForm(q); !is {
			counts[0]++
			continue
		}
		counts[1]++
		if roots[d] == nil {
			roots[d], _ = impl.ThirdRoots(d)
		}
		class, code := impl.ReduceQuadratic(q)
		if code != impl.ErrNone || !slices.Contains(roots[d], class) {
			t.Errorf("the root form %v of %v has the class %v, which is no third root of %d", q, f, class, d)
		}
		order, code := impl.OrderOfQuadratic(q)
		if order != 1 && order != 3 || code != impl.ErrNone {
			t.Errorf("the root form %v of %v has the order %d, %d", q, f, order, code)
		}
		if order == 3 {
			counts[2]++
		}
	}
	if slices.Min(counts[:]) < 500 {
		t.Errorf("root forms that are not definite, that are, and with the order 3: %v", counts)
	}
}

// TestDiscriminantsOfTriplesAndTables is the first part of the promise 14.
func TestDiscriminantsOfTriplesAndTables(t *testing.T) {
	greater := 0
	for _, f := range append(triplesWithin(2), tableTold(t, 2)...) {
		discriminant, _ := impl.DiscriminantOf(f)
		maximal, code := impl.MaximalForm(f)
		if discriminant == 0 {
			wantForm(t, "MaximalForm", maximal, code, impl.Form{}, impl.ErrState)
			continue
		}
		index, indexCode := impl.IndexInMaximal(f)
		least, _ := impl.DiscriminantOf(maximal)
		if code != impl.ErrNone || indexCode != impl.ErrNone || discriminant != least*index*index {
			t.Errorf("%v has the discriminant %d, the maximal form %v, %d, with %d, and the index %d, %d", f, discriminant, maximal, code, least, index, indexCode)
		}
		if index > 1 {
			greater++
		}
	}
	if greater < 100 {
		t.Errorf("only %d forms are not maximal", greater)
	}
}

func TestTriplesWith(t *testing.T) {
	for _, c := range []struct {
		q    impl.Quadratic
		n    int64
		want []impl.Form
	}{
		{impl.Quadratic{1, 1, 1}, 1, []impl.Form{{-1, -3, 0, 1}, {-1, 0, 3, 1}, {0, -3, -3, 0}, {0, 3, 3, 0}, {1, 0, -3, -1}, {1, 3, 0, -1}}},
		{impl.Quadratic{1, 1, 1}, 5, []impl.Form{{-1, -3, 0, 1}, {-1, 0, 3, 1}, {0, -3, -3, 0}, {0, 3, 3, 0}, {1, 0, -3, -1}, {1, 3, 0, -1}}},
		{impl.Quadratic{1, -1, 1}, 3, []impl.Form{{-1, 0, 3, -1}, {-1, 3, 0, -1}, {0, -3, 3, 0}, {0, 3, -3, 0}, {1, -3, 0, 1}, {1, 0, -3, 1}}},
		{impl.Quadratic{1, 0, 1}, 1, []impl.Form{{-1, 0, 3, 0}, {0, -3, 0, 1}, {0, 3, 0, -1}, {1, 0, -3, 0}}},
		{impl.Quadratic{2, 1, 3}, 1, nil},
		{impl.Quadratic{2, 1, 3}, 2, []impl.Form{{-1, -3, 3, 2}, {1, 3, -3, -2}}},
		{impl.Quadratic{2, -1, 3}, 5, []impl.Form{{-1, 3, 3, -2}, {1, -3, -3, 2}}},
		{impl.Quadratic{3, 2, 4}, 2, []impl.Form{{-1, 3, 6, 0}, {1, -3, -6, 0}}},
		{impl.Quadratic{3, 3, 1}, 3, []impl.Form{{-3, -9, -6, -1}, {-3, 0, 3, 1}, {3, 0, -3, -1}, {3, 9, 6, 1}}},
		{impl.Quadratic{1, 1, 6}, 4, nil},
		{impl.Quadratic{1, 1, 6}, 5, []impl.Form{{0, -3, -3, 5}, {0, 3, 3, -5}}},
		{impl.Quadratic{25, 5, 1}, 4, nil},
		{impl.Quadratic{25, 5, 1}, 5, []impl.Form{{0, -15, -3, 0}, {0, 15, 3, 0}}},
		// No third roots of their discriminants, and numbers too great.
		{impl.Quadratic{2, 2, 3}, 5, nil}, {impl.Quadratic{2, 1, 6}, 5, nil}, {impl.Quadratic{1, 0, 500}, 5, nil}, {impl.Quadratic{492875, 1000000, 507228}, 5, nil},
	} {
		triples, code := impl.TriplesWith(c.q, c.n)
		wantForms(t, "TriplesWith", triples, code, c.want, impl.ErrNone)
	}
}

// TestTriplesByHand is for all definite root forms of small triple forms, and for each n.
func TestTriplesByHand(t *testing.T) {
	for n := int64(1); n <= 5; n++ {
		byRoot := map[impl.Quadratic][]impl.Form{}
		for _, f := range triplesWithin(n) {
			byRoot[rootFormByHand(f)] = append(byRoot[rootFormByHand(f)], f)
		}
		count := 0
		for q, want := range byRoot {
			if !isDefiniteByHand(q) {
				triples, code := impl.TriplesWith(q, n)
				wantForms(t, "TriplesWith", triples, code, nil, impl.ErrRange)
				continue
			}
			count++
			triples, code := impl.TriplesWith(q, n)
			wantForms(t, "TriplesWith", triples, code, want, impl.ErrNone)
			if !isStrictlyAscending(triples, compareForms) {
				t.Errorf("TriplesWith(%v, %d) = %v", q, n, triples)
			}
			less, code := impl.TriplesWith(q, max(n-1, 1))
			if code != impl.ErrNone || slices.ContainsFunc(less, func(f impl.Form) bool { return !slices.Contains(triples, f) }) {
				t.Errorf("TriplesWith(%v, %d) = %v, %d, and not in the list of %d", q, max(n-1, 1), less, code, n)
			}
		}
		if want := []int{7, 75, 347, 895, 1855}[n-1]; count != want {
			t.Errorf("%d definite root forms for %d, want %d", count, n, want)
		}
	}
}

// beyondTriples are refused by TriplesWith.
var beyondTriples = []int64{0, 6, -1, -5, 7, 100, 1001, math.MaxInt64, math.MinInt64}

// wantCodeOfSquares gives q to each function that takes definite forms, in each place.
func wantCodeOfSquares(t *testing.T, q, other impl.Quadratic, n, want int64) {
	t.Helper()
	reduced, code := impl.ReduceQuadratic(q)
	wantQuadratic(t, "ReduceQuadratic", reduced, code, impl.Quadratic{}, want)
	order, code := impl.OrderOfQuadratic(q)
	wantNumber(t, "OrderOfQuadratic", order, code, 0, want)
	wantCodeOfPair(t, q, other, want)
	wantCodeOfPair(t, q, q, want)
	triples, code := impl.TriplesWith(q, n)
	wantForms(t, "TriplesWith", triples, code, nil, want)
}

func wantCodeOfPair(t *testing.T, q, r impl.Quadratic, want int64) {
	t.Helper()
	composed, code := impl.ComposeQuadratics(q, r)
	wantQuadratic(t, "ComposeQuadratics", composed, code, impl.Quadratic{}, want)
	composed, code = impl.ComposeQuadratics(r, q)
	wantQuadratic(t, "ComposeQuadratics", composed, code, impl.Quadratic{}, want)
}

// TestInvalidSquares: what is no quadratic form comes first, whatever the other arguments are.
func TestInvalidSquares(t *testing.T) {
	for i := range 3 {
		for _, far := range outside(trillion) {
			for _, bad := range []impl.Quadratic{{2, 1, 3}, {}, {1, 2, 1}, {-1, 0, -1}, {2, 2, 2}, {trillion, trillion, trillion}} {
				bad[i] = far
				is, code := impl.IsDefiniteForm(bad)
				wantBool(t, "IsDefiniteForm", is, code, false, impl.ErrInvalid)
				for _, other := range []impl.Quadratic{{2, 1, 3}, {1, 0, 1}, {}, {-2, 1, -3}, {trillion, 0, 0}} {
					wantCodeOfSquares(t, bad, other, 3, impl.ErrInvalid)
				}
				for _, n := range beyondTriples {
					wantCodeOfSquares(t, bad, impl.Quadratic{1, 1, 1}, n, impl.ErrInvalid)
				}
			}
		}
	}
}

// TestSquaresNotDefinite breaks each condition by itself, in each place.
func TestSquaresNotDefinite(t *testing.T) {
	bad := append([]impl.Quadratic{
		{}, {1, 2, 1}, {1, 0, -1}, {1, 3, 1}, {1, 0, 501}, {1, 1, 501}, {-2, 1, -3}, {-1, 0, -500}, {2, 0, 2}, {4, 2, 6}, {22, 0, 22}, {0, 1, 0},
		{trillion, trillion, trillion}, {trillion, 0, 1}, {-trillion, -trillion, -trillion}, {1 << 31, 2, 1 << 31}, {1, 1 << 32, 1},
	}, beyondForms...)
	for _, q := range bad {
		for _, other := range []impl.Quadratic{{2, 1, 3}, {1, 0, 1}, {1, 0, 500}, {}, {-2, 1, -3}, {1, 0, 501}} {
			wantCodeOfSquares(t, q, other, 3, impl.ErrRange)
		}
		for _, n := range beyondTriples {
			triples, code := impl.TriplesWith(q, n)
			wantForms(t, "TriplesWith", triples, code, nil, impl.ErrRange)
		}
	}
	for _, q := range []impl.Quadratic{{2, 1, 3}, {1, 1, 1}, {1, 0, 500}, {492875, 1000000, 507228}} {
		for _, n := range beyondTriples {
			triples, code := impl.TriplesWith(q, n)
			wantForms(t, "TriplesWith", triples, code, nil, impl.ErrRange)
		}
	}
}

// TestDifferentDiscriminants: two definite forms with different discriminants have no composition.
func TestDifferentDiscriminants(t *testing.T) {
	forms := []impl.Quadratic{{1, 1, 1}, {1, 0, 1}, {1, 0, 3}, {2, 1, 3}, {2, 1, 2}, {1, 0, 6}, {1, 1, 500}, {1, 0, 500}, {3, -1, 4}, {5, 4472, 1000000}}
	for i, q := range forms {
		for _, r := range forms[i+1:] {
			wantDefinite(t, r, true)
			wantCodeOfPair(t, q, r, impl.ErrRange)
		}
	}
}

// TestInvalidTriples: what is no form comes before forms that are not triple.
func TestInvalidTriples(t *testing.T) {
	for i := range 4 {
		for _, far := range append(outside(1000), 1002, -1002) {
			for _, bad := range []impl.Form{{}, {1, 3, 0, -1}, {1, 1, 1, 1}, {1000, 999, 999, 1000}, {1, 3, 1, 0}} {
				bad[i] = far
				is, code := impl.IsTriple(bad)
				wantBool(t, "IsTriple", is, code, false, impl.ErrInvalid)
				q, code := impl.RootForm(bad)
				wantQuadratic(t, "RootForm", q, code, impl.Quadratic{}, impl.ErrInvalid)
			}
		}
	}
}

// TestListsOfSquaresAreNew: lists that the caller changes, with their spare memory, are not those of the next call.
func TestListsOfSquaresAreNew(t *testing.T) {
	for range 2 {
		classes, code := impl.ClassesOf(-23)
		wantQuadratics(t, "ClassesOf", classes, code, []impl.Quadratic{{1, 1, 6}, {2, -1, 3}, {2, 1, 3}}, impl.ErrNone)
		roots, code := impl.ThirdRoots(-44)
		wantQuadratics(t, "ThirdRoots", roots, code, []impl.Quadratic{{1, 0, 11}, {3, -2, 4}, {3, 2, 4}}, impl.ErrNone)
		triples, code := impl.TriplesWith(impl.Quadratic{2, 1, 3}, 2)
		wantForms(t, "TriplesWith", triples, code, []impl.Form{{-1, -3, 3, 2}, {1, 3, -3, -2}}, impl.ErrNone)
		for _, list := range [][]impl.Quadratic{classes, roots} {
			list = list[:cap(list)]
			for i := range list {
				list[i] = impl.Quadratic{7, 7, 7}
			}
		}
		triples = triples[:cap(triples)]
		for i := range triples {
			triples[i] = impl.Form{7, 7, 7, 7}
		}
	}
}
