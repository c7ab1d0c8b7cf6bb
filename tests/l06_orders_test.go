package tests

import (
	"math"
	"slices"
	"testing"

	"loop.example/g01342/impl"
)

// raisedByHand writes out what the chapter says of f turned at r, with f(r, 1), its slope there, and
// so on.
func raisedByHand(f impl.Form, p, r int64) (impl.Form, bool) {
	a, b, c, d := f[0], f[1], f[2], f[3]
	if r < p {
		a, b, c, d = valueByHand(f, r, 1), -(3*a*r*r + 2*b*r + c), 3*a*r+b, -a
	}
	if a%(p*p) != 0 || b%p != 0 {
		return impl.Form{}, false
	}
	return impl.Form{a / (p * p), b / p, c, p * d}, true
}

func tiltedByHand(f impl.Form, p, r int64) impl.Form {
	a, b, c, d := f[0], f[1], f[2], f[3]
	if r < p {
		return impl.Form{a, 3*a*r + b, 3*a*r*r + 2*b*r + c, valueByHand(f, r, 1)}
	}
	return impl.Form{-d, c, -b, a}
}

func loweredByHand(f impl.Form, p, r int64) (impl.Form, bool) {
	tilted := tiltedByHand(f, p, r)
	if tilted[3]%p != 0 {
		return impl.Form{}, false
	}
	return impl.Form{p * p * tilted[0], p * tilted[1], tilted[2], tilted[3] / p}, true
}

func canDivideByHand(f impl.Form, p int64) bool {
	return f[0]%p == 0 && f[1]%p == 0 && f[2]%p == 0 && f[3]%p == 0
}

func dividedByHand(f impl.Form, n int64) impl.Form {
	return impl.Form{f[0] / n, f[1] / n, f[2] / n, f[3] / n}
}

// stepByHand is the next step of the chapter from f to its maximal form: the form reached, the prime
// and the index. The index is 1 if there is none.
func stepByHand(f impl.Form) (impl.Form, int64, int64) {
	for p := int64(2); p <= 1000; p++ {
		if canDivideByHand(f, p) {
			return dividedByHand(f, p), p, p * p
		}
	}
	discriminant := discriminantByHand(f)
	for p := int64(2); p*p <= max(discriminant, -discriminant); p++ {
		if discriminant%(p*p) != 0 {
			continue
		}
		// No number with a lesser divisor is met: the form could be raised for this one first.
		for r := int64(0); r <= p; r++ {
			if raised, canBe := raisedByHand(f, p, r); canBe {
				return raised, p, p
			}
		}
	}
	return f, 0, 1
}

// maximalByHand goes all steps, and returns the last form, before it is made normal, the index, and
// the primes.
func maximalByHand(f impl.Form) (impl.Form, int64, []int64) {
	index := int64(1)
	var primes []int64
	for {
		reached, p, times := stepByHand(f)
		if times == 1 {
			return f, index, primes
		}
		f, index, primes = reached, index*times, append(primes, p)
	}
}

// wantLimited compares a form of a result that may be beyond the limit, or be none at all.
func wantLimited(t *testing.T, what string, got impl.Form, code int64, want impl.Form, canBe bool) {
	t.Helper()
	switch {
	case !canBe:
		wantForm(t, what, got, code, impl.Form{}, impl.ErrState)
	case slices.Max(want[:]) > 1000 || slices.Min(want[:]) < -1000:
		wantForm(t, what, got, code, impl.Form{}, impl.ErrLimit)
	default:
		wantForm(t, what, got, code, want, impl.ErrNone)
	}
}

// wantSteps compares all functions of a form and a prime with what the chapter says, and returns the
// number of points at which f can be raised.
func wantSteps(t *testing.T, f impl.Form, p int64) int {
	t.Helper()
	var points []int64
	var below []impl.Form
	belowCode := int64(impl.ErrNone)
	for r := int64(0); r <= p; r++ {
		want, canBe := raisedByHand(f, p, r)
		got, code := impl.RaiseForm(f, p, r)
		wantLimited(t, "RaiseForm", got, code, want, canBe)
		if canBe {
			points = append(points, r)
		}
		want, canBe = loweredByHand(f, p, r)
		got, code = impl.LowerForm(f, p, r)
		wantLimited(t, "LowerForm", got, code, want, canBe)
		if canBe && code == impl.ErrLimit {
			belowCode = impl.ErrLimit
		}
		if canBe {
			below = append(below, want)
		}
	}
	if belowCode != impl.ErrNone {
		below = nil
	}
	gotPoints, code := impl.PointsToRaise(f, p)
	wantList(t, "PointsToRaise", gotPoints, code, points, impl.ErrNone)
	forms, code := impl.FormsBelow(f, p)
	wantForms(t, "FormsBelow", forms, code, below, belowCode)
	canDivide := canDivideByHand(f, p)
	divided, code := impl.DivideForm(f, p)
	wantLimited(t, "DivideForm", divided, code, dividedByHand(f, p), canDivide)
	is, code := impl.IsMaximalAt(f, p)
	wantBool(t, "IsMaximalAt", is, code, !canDivide && len(points) == 0, impl.ErrNone)
	return len(points)
}

// formsToRaise are forms that can be raised at a point r of p, a prime greater than 3: for r less than
// p with a small a and b, all c that r allows, and the least d.
func formsToRaise(p, r int64) []impl.Form {
	var forms []impl.Form
	if r == p {
		for k := range int64(4) {
			forms = append(forms, impl.Form{0, p * (k - 2), 1 + k, 7 - 3*k}, impl.Form{0, p * k, 300 * k, 11})
		}
		return forms
	}
	for a := int64(-2); a <= 2; a++ {
		b := 3*a + 1
		first := -(3*a*r*r + 2*b*r) % p
		for c := first - 9*p; c <= first+9*p; c += p {
			d := -(a*r*r*r + b*r*r + c*r) % (p * p)
			if d > p*p/2 {
				d -= p * p
			}
			if d < -p*p/2 {
				d += p * p
			}
			if max(c, -c) <= 1000 && max(d, -d) <= 1000 {
				forms = append(forms, impl.Form{a, b, c, d})
			}
		}
	}
	return forms
}

func isWithinMaxRaised(f impl.Form) bool { return slices.Max(f[:]) <= 30 && slices.Min(f[:]) >= -30 }

// formsToOrder are forms with numbers within MaxRaised, of both signs of the discriminant and with the
// discriminant 0: small ones, ones of which many can be raised or divided several times, and others.
func formsToOrder() []impl.Form {
	var forms []impl.Form
	for i, numbers := range smallMatrices(3) {
		if i%3 == 0 {
			forms = append(forms, impl.Form(numbers))
		}
	}
	for i, numbers := range smallMatrices(2) {
		k := int64(i%7 + 1)
		forms = append(forms, impl.Form{numbers[0], 2 * k * numbers[1], 4 * k * numbers[2], 8 * numbers[3]})
		forms = append(forms, impl.Form{3 * numbers[0], 3 * k % 15 * numbers[1], 9 * numbers[2], -9 * numbers[3]})
		forms = append(forms, impl.Form{k * numbers[0], k * numbers[1], 2 * k * numbers[2], 2 * k * numbers[3]})
	}
	for _, f := range scatteredForms(600) {
		forms = append(forms, impl.Form{f[0] % 31, f[1] % 31, f[2] % 31, f[3] % 31})
	}
	return slices.DeleteFunc(forms, func(f impl.Form) bool { return !isWithinMaxRaised(f) })
}

func TestMaxRaised(t *testing.T) {
	if impl.MaxRaised != 30 {
		t.Errorf("MaxRaised is %d", impl.MaxRaised)
	}
}

func TestPointsToRaise(t *testing.T) {
	cases := []struct {
		f    impl.Form
		p    int64
		want []int64
	}{
		{impl.Form{1, 0, 0, 4}, 2, []int64{0}},
		{impl.Form{1, 0, 0, 2}, 2, nil},
		{impl.Form{1, 0, -1, 1}, 2, nil},
		{impl.Form{1, 0, -1, 1}, 97, nil},
		{impl.Form{1, 0, 1, 2}, 2, []int64{1}},
		{impl.Form{4, 2, 1, 1}, 2, []int64{2}},
		{impl.Form{4, 2, 2, 4}, 2, []int64{0, 1, 2}},
		{impl.Form{4, 2, 4, 4}, 2, []int64{0, 2}},
		{impl.Form{0, 2, -2, 0}, 2, []int64{0, 1, 2}},
		{impl.Form{-2, 2, 2, -2}, 2, []int64{1}},
		{impl.Form{1, 0, 0, 10}, 3, []int64{2}},
		{impl.Form{1, 0, 0, 9}, 3, []int64{0}},
		{impl.Form{1, 0, 0, 3}, 3, nil},
		{impl.Form{9, 3, 1, 1}, 3, []int64{3}},
		{impl.Form{9, 3, 1, 0}, 3, []int64{3}},
		{impl.Form{9, 3, 3, 18}, 3, []int64{0, 2, 3}},
		{impl.Form{9, 3, 0, 18}, 3, []int64{0, 3}},
		{impl.Form{0, 3, 3, 0}, 3, []int64{0, 2, 3}},
		{impl.Form{3, 0, -3, 0}, 3, []int64{0, 1, 2}},
		{impl.Form{1, 0, 0, 25}, 5, []int64{0}},
		{impl.Form{1, -2, 1, 25}, 5, []int64{1}},
		{impl.Form{25, 25, 1, 0}, 5, []int64{5}},
		{impl.Form{0, 7, 7, 0}, 7, []int64{0, 6, 7}},
		{impl.Form{2, 3, 97, 96}, 97, []int64{96}},
		{impl.Form{0, 97, 1, 1}, 97, []int64{97}},
		{impl.Form{97, 194, 97, 0}, 97, []int64{0, 96}},
		// Squares of p that divide the value alone, and slopes with p alone.
		{impl.Form{1, 0, 1, 4}, 2, nil},
		{impl.Form{4, 1, 1, 1}, 2, nil},
		{impl.Form{2, 2, 1, 1}, 2, nil},
		{impl.Form{9, 1, 1, 1}, 3, nil},
		{impl.Form{0, 1, 0, 0}, 5, []int64{0}},
	}
	for _, c := range cases {
		points, code := impl.PointsToRaise(c.f, c.p)
		wantList(t, "PointsToRaise", points, code, c.want, impl.ErrNone)
		wantSteps(t, c.f, c.p)
	}
}

// TestStepsOfSmallForms looks at all forms modulo 4 and 2, at all modulo 9 and 3, and at many modulo
// 25 and 5 and 49 and 7.
func TestStepsOfSmallForms(t *testing.T) {
	strides := map[int64]int64{2: 1, 3: 1, 5: 67, 7: 4001}
	most := map[int64]int{2: 3, 3: 4, 5: 2, 7: 1}
	for p, stride := range strides {
		n := p * p
		counts := make([]int, p+2)
		for digits := int64(0); digits < n*n*n*n; digits += stride {
			f := impl.Form{digits/(n*n*n) - p, digits/(n*n)%n - 2, digits/n%n - n/2, digits%n - p}
			counts[wantSteps(t, f, p)]++
		}
		for points := range most[p] {
			if counts[points] < 5 {
				t.Errorf("numbers of forms by points of %d: %v", p, counts)
			}
		}
	}
}

// TestStepsOfAllPrimes looks at forms that can be raised at given points of each prime, and at others.
func TestStepsOfAllPrimes(t *testing.T) {
	for _, p := range allPrimes[2:] {
		var raisedAt, raisedNowhere int
		for _, r := range []int64{0, 1, 2, p / 2, p - 2, p - 1, p} {
			for _, f := range formsToRaise(p, r) {
				points, code := impl.PointsToRaise(f, p)
				if !slices.Contains(points, r) || code != impl.ErrNone {
					t.Errorf("PointsToRaise(%v, %d) = %v, %d, want %d among them", f, p, points, code, r)
				}
				raisedAt++
				wantSteps(t, f, p)
			}
		}
		for _, f := range append(mixedForms(10), timesForm(p, impl.Form{1, 3, 0, -2}), timesForm(p, impl.Form{0, 1, 10, 1})) {
			if wantSteps(t, f, p) == 0 {
				raisedNowhere++
			}
		}
		if raisedAt < 25 || raisedNowhere < 5 {
			t.Errorf("forms of %d that can be raised %d, and that can't %d", p, raisedAt, raisedNowhere)
		}
	}
}

type stepCase struct {
	f    impl.Form
	p, r int64
	want impl.Form
	code int64
}

func wantStepCases(t *testing.T, what string, take func(impl.Form, int64, int64) (impl.Form, int64), cases []stepCase) {
	t.Helper()
	for _, c := range cases {
		got, code := take(c.f, c.p, c.r)
		wantForm(t, what, got, code, c.want, c.code)
	}
}

func TestRaiseForm(t *testing.T) {
	wantStepCases(t, "RaiseForm", impl.RaiseForm, []stepCase{
		{impl.Form{1, 0, 0, 4}, 2, 0, impl.Form{1, 0, 0, -2}, impl.ErrNone},
		{impl.Form{1, 0, 0, 4}, 2, 1, impl.Form{}, impl.ErrState},
		{impl.Form{1, 0, 0, 4}, 2, 2, impl.Form{}, impl.ErrState},
		{impl.Form{4, 2, 3, 5}, 2, 2, impl.Form{1, 1, 3, 10}, impl.ErrNone},
		{impl.Form{1, 0, 1, 2}, 2, 1, impl.Form{1, -2, 3, -2}, impl.ErrNone},
		{impl.Form{1, 0, 0, 10}, 3, 2, impl.Form{2, -4, 6, -3}, impl.ErrNone},
		{impl.Form{9, -3, 3, 18}, 3, 3, impl.Form{1, -1, 3, 54}, impl.ErrNone},
		{impl.Form{-25, 5, 1, -7}, 5, 5, impl.Form{-1, 1, 1, -35}, impl.ErrNone},
		{impl.Form{0, 970, 1000, 10}, 97, 97, impl.Form{0, 10, 1000, 970}, impl.ErrNone},
		// The last number with 1000, and with more.
		{impl.Form{4, 2, 3, 500}, 2, 2, impl.Form{1, 1, 3, 1000}, impl.ErrNone},
		{impl.Form{4, 2, 3, -500}, 2, 2, impl.Form{1, 1, 3, -1000}, impl.ErrNone},
		{impl.Form{4, 2, 3, 501}, 2, 2, impl.Form{}, impl.ErrLimit},
		{impl.Form{4, 2, 3, -501}, 2, 2, impl.Form{}, impl.ErrLimit},
		{impl.Form{500, 0, 0, 4}, 2, 0, impl.Form{1, 0, 0, -1000}, impl.ErrNone},
		{impl.Form{501, 0, 0, 4}, 2, 0, impl.Form{}, impl.ErrLimit},
		{impl.Form{0, 97, 0, 11}, 97, 97, impl.Form{}, impl.ErrLimit},
		// The third one.
		{impl.Form{333, 1, 3, -1}, 2, 1, impl.Form{84, -502, 1000, -666}, impl.ErrNone},
		{impl.Form{333, 2, 1, 0}, 2, 1, impl.Form{}, impl.ErrLimit},
		{impl.Form{-333, -3, 1, -1}, 2, 1, impl.Form{}, impl.ErrLimit},
		{impl.Form{-333, -2, 1, 2}, 2, 1, impl.Form{}, impl.ErrLimit},
		// ErrState comes before ErrLimit.
		{impl.Form{4, 1, 3, 501}, 2, 2, impl.Form{}, impl.ErrState},
		{impl.Form{501, 0, 0, 2}, 2, 0, impl.Form{}, impl.ErrState},
	})
}

func TestLowerForm(t *testing.T) {
	wantStepCases(t, "LowerForm", impl.LowerForm, []stepCase{
		{impl.Form{1, 0, 0, 2}, 2, 0, impl.Form{4, 0, 0, 1}, impl.ErrNone},
		{impl.Form{1, 0, 0, 2}, 2, 1, impl.Form{}, impl.ErrState},
		{impl.Form{1, 0, 0, 2}, 2, 2, impl.Form{}, impl.ErrState},
		{impl.Form{1, 0, 0, 1}, 2, 1, impl.Form{4, 6, 3, 1}, impl.ErrNone},
		{impl.Form{2, 3, 5, 7}, 2, 2, impl.Form{-28, 10, -3, 1}, impl.ErrNone},
		{impl.Form{1, 0, -1, 1}, 5, 3, impl.Form{25, 45, 26, 5}, impl.ErrNone},
		{impl.Form{97, 10, 1000, 0}, 97, 97, impl.Form{}, impl.ErrLimit},
		{impl.Form{97, 1000, 10, 0}, 97, 97, impl.Form{0, 970, -1000, 1}, impl.ErrNone},
		{impl.Form{-970, 1000, 10, 0}, 97, 97, impl.Form{0, 970, -1000, -10}, impl.ErrNone},
		{impl.Form{0, 10, 20, 97}, 97, 0, impl.Form{0, 970, 20, 1}, impl.ErrNone},
		{impl.Form{0, 10, 20, 10}, 97, 96, impl.Form{}, impl.ErrLimit},
		// Numbers with 1000, and with more.
		{impl.Form{250, 500, 1000, 1000}, 2, 0, impl.Form{1000, 1000, 1000, 500}, impl.ErrNone},
		{impl.Form{-250, -500, -1000, -1000}, 2, 0, impl.Form{-1000, -1000, -1000, -500}, impl.ErrNone},
		{impl.Form{251, 0, 0, 0}, 2, 0, impl.Form{}, impl.ErrLimit},
		{impl.Form{-251, 0, 0, 0}, 2, 0, impl.Form{}, impl.ErrLimit},
		{impl.Form{0, 501, 0, 0}, 2, 0, impl.Form{}, impl.ErrLimit},
		{impl.Form{0, -501, 0, 0}, 2, 0, impl.Form{}, impl.ErrLimit},
		{impl.Form{0, 1, 998, 1}, 2, 1, impl.Form{0, 2, 1000, 500}, impl.ErrNone},
		{impl.Form{0, 1, 999, 0}, 2, 1, impl.Form{}, impl.ErrLimit},
		{impl.Form{0, -1, -998, -1}, 2, 1, impl.Form{0, -2, -1000, -500}, impl.ErrNone},
		{impl.Form{0, -1, -999, 0}, 2, 1, impl.Form{}, impl.ErrLimit},
		{impl.Form{0, 1, 998, 999}, 2, 1, impl.Form{0, 2, 1000, 999}, impl.ErrNone},
		{impl.Form{1, 1, 995, 1000}, 2, 1, impl.Form{}, impl.ErrState},
		{impl.Form{0, 3, 994, 1000}, 2, 1, impl.Form{}, impl.ErrState},
		{impl.Form{0, 4, 992, 1000}, 2, 1, impl.Form{0, 8, 1000, 998}, impl.ErrNone},
		{impl.Form{0, 10, 980, 1000}, 2, 1, impl.Form{0, 20, 1000, 995}, impl.ErrNone},
		// ErrState comes before ErrLimit.
		{impl.Form{251, 0, 0, 1}, 2, 0, impl.Form{}, impl.ErrState},
		{impl.Form{1000, 1000, 1000, 1000}, 97, 97, impl.Form{}, impl.ErrState},
	})
}

func TestDivideForm(t *testing.T) {
	cases := []struct {
		f    impl.Form
		p    int64
		want impl.Form
		code int64
	}{
		{impl.Form{2, 4, 0, -2}, 2, impl.Form{1, 2, 0, -1}, impl.ErrNone},
		{impl.Form{4, 8, 0, -12}, 2, impl.Form{2, 4, 0, -6}, impl.ErrNone},
		{impl.Form{6, 12, 0, -18}, 3, impl.Form{2, 4, 0, -6}, impl.ErrNone},
		{impl.Form{6, 12, 0, -18}, 2, impl.Form{3, 6, 0, -9}, impl.ErrNone},
		{impl.Form{6, 12, 0, -18}, 5, impl.Form{}, impl.ErrState},
		{impl.Form{1000, -1000, 1000, -1000}, 5, impl.Form{200, -200, 200, -200}, impl.ErrNone},
		{impl.Form{97, 970, -97, 0}, 97, impl.Form{1, 10, -1, 0}, impl.ErrNone},
		{impl.Form{1, 2, 2, 2}, 2, impl.Form{}, impl.ErrState},
		{impl.Form{2, 1, 2, 2}, 2, impl.Form{}, impl.ErrState},
		{impl.Form{2, 2, 1, 2}, 2, impl.Form{}, impl.ErrState},
		{impl.Form{2, 2, 2, 1}, 2, impl.Form{}, impl.ErrState},
		// A content that is a prime number beyond MaxPrime.
		{impl.Form{101, 202, 0, -909}, 97, impl.Form{}, impl.ErrState},
		{impl.Form{101, 202, 0, -909}, 101, impl.Form{}, impl.ErrRange},
		{impl.Form{202, 404, 0, -606}, 2, impl.Form{101, 202, 0, -303}, impl.ErrNone},
	}
	for _, c := range cases {
		got, code := impl.DivideForm(c.f, c.p)
		wantForm(t, "DivideForm", got, code, c.want, c.code)
	}
}

func TestFormsBelow(t *testing.T) {
	cases := []struct {
		f    impl.Form
		p    int64
		want []impl.Form
		code int64
	}{
		{impl.Form{1, 0, 0, 2}, 2, []impl.Form{{4, 0, 0, 1}}, impl.ErrNone},
		{impl.Form{1, 0, -1, 1}, 2, nil, impl.ErrNone},
		{impl.Form{1, 0, -1, 1}, 3, nil, impl.ErrNone},
		{impl.Form{0, 1, 1, 0}, 2, []impl.Form{{0, 2, 1, 0}, {0, 2, 3, 1}, {0, 2, -1, 0}}, impl.ErrNone},
		{impl.Form{1, 0, -1, 0}, 3, []impl.Form{{9, 0, -1, 0}, {9, 9, 2, 0}, {9, 18, 11, 2}}, impl.ErrNone},
		// One of several forms with numbers of 1000, and beyond.
		{impl.Form{0, 1, 499, 0}, 2, []impl.Form{{0, 2, 499, 0}, {0, 2, 501, 250}, {0, 998, -1, 0}}, impl.ErrNone},
		{impl.Form{0, 1, 500, 0}, 2, []impl.Form{{0, 2, 500, 0}, {0, 1000, -1, 0}}, impl.ErrNone},
		{impl.Form{0, 1, 501, 0}, 2, nil, impl.ErrLimit},
		{impl.Form{0, 1, 999, 0}, 2, nil, impl.ErrLimit},
		{impl.Form{251, 0, 1, 0}, 2, nil, impl.ErrLimit},
		{impl.Form{251, 0, 1, 1}, 2, nil, impl.ErrNone},
		// At other roots than the last one.
		{impl.Form{250, 1, 500, 2}, 2, []impl.Form{{1000, 2, 500, 1}, {-8, 1000, -1, 125}}, impl.ErrNone},
		{impl.Form{250, 1, 501, 2}, 2, nil, impl.ErrLimit},
		{impl.Form{2, 1, 1, 0}, 2, []impl.Form{{8, 2, 1, 0}, {8, 14, 9, 2}, {0, 2, -1, 1}}, impl.ErrNone},
		{impl.Form{2, 499, 1, 0}, 2, nil, impl.ErrLimit},
	}
	for _, c := range cases {
		got, code := impl.FormsBelow(c.f, c.p)
		wantForms(t, "FormsBelow", got, code, c.want, c.code)
		wantSteps(t, c.f, c.p)
	}
}

// TestStepsAndDiscriminants is the first part of the guarantee and of the promise 6: raised forms have
// discriminants divided by p p, and lowered forms can be raised again. Divided forms are told too.
func TestStepsAndDiscriminants(t *testing.T) {
	var raisedCount, loweredCount, dividedCount int
	forms := slices.Concat(mixedForms(60), factorableForms(), smallForms(1))
	for _, p := range []int64{2, 3, 5, 7, 11, 97} {
		for r := int64(0); r <= p; r += p/4 + 1 {
			forms = append(forms, timesForm(p, impl.Form{1, r % 3, 2, -1}))
			if p > 3 {
				forms = append(forms, formsToRaise(p, r)...)
			}
		}
	}
	for _, f := range forms {
		for _, p := range []int64{2, 3, 5, 7, 11, 97} {
			discriminant := discriminantByHand(f)
			for r := int64(0); r <= p; r++ {
				if raised, code := impl.RaiseForm(f, p, r); code == impl.ErrNone {
					raisedCount++
					wantNumber(t, "p p times the discriminant of the raised form", p*p*discriminantByHand(raised), 0, discriminant, 0)
				}
				lowered, code := impl.LowerForm(f, p, r)
				if code != impl.ErrNone {
					continue
				}
				loweredCount++
				wantNumber(t, "the discriminant of the lowered form", discriminantByHand(lowered), 0, p*p*discriminant, 0)
				points, _ := impl.PointsToRaise(lowered, p)
				if !slices.Contains(points, p) {
					t.Errorf("%v, lowered to %v at %d of %d, can't be raised again: %v", f, lowered, r, p, points)
				}
				back, code := impl.RaiseForm(lowered, p, p)
				wantLimited(t, "the lowered form raised", back, code, tiltedByHand(f, p, r), true)
			}
			if divided, code := impl.DivideForm(f, p); code == impl.ErrNone {
				dividedCount++
				wantNumber(t, "p^4 times the discriminant of the divided form", p*p*p*p*discriminantByHand(divided), 0, discriminant, 0)
			}
		}
	}
	if raisedCount < 500 || loweredCount < 500 || dividedCount < 50 {
		t.Errorf("forms raised %d, lowered %d, divided %d", raisedCount, loweredCount, dividedCount)
	}
}

// wantMaximal compares all three functions of maximal forms. Without a maximal form within the limit
// the index is told nevertheless.
func wantMaximal(t *testing.T, f, want impl.Form, wantCode, index int64) {
	t.Helper()
	maximal, code := impl.MaximalForm(f)
	wantForm(t, "MaximalForm", maximal, code, want, wantCode)
	if wantCode == impl.ErrLimit {
		wantCode = impl.ErrNone
	}
	n, code := impl.IndexInMaximal(f)
	wantNumber(t, "IndexInMaximal", n, code, index, wantCode)
	is, code := impl.IsMaximal(f)
	wantBool(t, "IsMaximal", is, code, index == 1, wantCode)
}

func TestMaximalForm(t *testing.T) {
	cases := []struct {
		f, maximal impl.Form
		index      int64
	}{
		{impl.Form{1, 0, -1, 1}, impl.Form{1, 0, -1, 1}, 1},
		{impl.Form{1, 0, 0, 4}, impl.Form{1, 0, 0, 2}, 2},
		{impl.Form{1, 0, 0, 2}, impl.Form{1, 0, 0, 2}, 1},
		{impl.Form{2, 0, 0, 3}, impl.Form{2, 0, 0, 3}, 1},
		// A known field with a ring that no single element makes, and one with a third root.
		{impl.Form{1, 1, -2, 8}, impl.Form{2, 1, 1, -2}, 2},
		{impl.Form{1, 0, 0, 10}, impl.Form{2, -4, 6, -3}, 3},
		// Divided, by several primes, and several times.
		{impl.Form{30, 0, -30, 30}, impl.Form{1, 0, -1, 1}, 900},
		{impl.Form{-29, 0, 29, -29}, impl.Form{1, 0, -1, 1}, 841},
		{impl.Form{27, 0, -27, 27}, impl.Form{1, 0, -1, 1}, 729},
		{impl.Form{0, 16, 16, 0}, impl.Form{0, 1, 1, 0}, 256},
		{impl.Form{0, 30, 30, 0}, impl.Form{0, 1, 1, 0}, 900},
		// Raised several times, also before and after it is divided.
		{impl.Form{1, 0, 0, 16}, impl.Form{1, 0, 0, 2}, 8},
		{impl.Form{1, 0, 0, -25}, impl.Form{1, 0, 0, 5}, 5},
		{impl.Form{8, 0, -2, 1}, impl.Form{1, 0, -1, 1}, 8},
		{impl.Form{1, 0, -9, 27}, impl.Form{1, 0, -1, 1}, 27},
		{impl.Form{3, 0, -27, 0}, impl.Form{0, 1, 1, 0}, 486},
		// By prime numbers beyond MaxPrime.
		{impl.Form{28, 1, 1, -27}, impl.Form{0, 1, 1, 1}, 2269},
		{impl.Form{29, -1, 1, 28}, impl.Form{0, 1, 1, 1}, 2437},
		{impl.Form{24, -5, -5, -29}, impl.Form{0, 1, 1, 1}, 2113},
		{impl.Form{30, 29, 30, 29}, impl.Form{0, 1, 0, 1}, 1741},
		{impl.Form{-1, -30, -1, -30}, impl.Form{0, 1, 0, 1}, 901},
	}
	for _, c := range cases {
		normal, code := impl.NormalForm(c.maximal)
		if code != impl.ErrNone || discriminantByHand(c.f) != c.index*c.index*discriminantByHand(c.maximal) {
			t.Fatalf("wrong case %v: NormalForm is %v, %d", c, normal, code)
		}
		wantMaximal(t, c.f, normal, impl.ErrNone, c.index)
	}
	wantMaximal(t, impl.Form{1, 0, -1, 1}, impl.Form{-1, -1, -2, -1}, impl.ErrNone, 1)
	wantMaximal(t, impl.Form{16, 0, 0, 1}, impl.Form{-1, -3, -3, -3}, impl.ErrNone, 8)
}

// TestGreatMaximalForms has maximal forms with numbers beyond those that functions of chapter 2 take,
// near to the limit, and beyond it, where the index still is told. No form has one with 1000 itself.
func TestGreatMaximalForms(t *testing.T) {
	cases := []struct {
		f, want     impl.Form
		code, index int64
	}{
		{impl.Form{-30, -30, -29, -29}, impl.Form{0, -1, 0, -870}, impl.ErrNone, 59},
		{impl.Form{-30, 1, 30, 0}, impl.Form{0, -1, -1, 900}, impl.ErrNone, 30},
		{impl.Form{0, 30, 1, -30}, impl.Form{0, -1, -1, 900}, impl.ErrNone, 30},
		{impl.Form{0, -29, -25, 29}, impl.Form{0, -1, -1, 997}, impl.ErrNone, 29},
		{impl.Form{0, 29, 25, -29}, impl.Form{0, -1, -1, 997}, impl.ErrNone, 29},
		{impl.Form{0, -30, -23, 29}, impl.Form{}, impl.ErrLimit, 30},
		{impl.Form{0, -30, -29, 30}, impl.Form{}, impl.ErrLimit, 30},
		{impl.Form{30, 29, -30, 0}, impl.Form{}, impl.ErrLimit, 30},
	}
	for _, c := range cases {
		wantMaximal(t, c.f, c.want, c.code, c.index)
	}
}

// TestMaximalFormsByHand goes the chapter's way step by step, and compares the end with the program's
// maximal form. It also is the second part of the promise 6 and the rest of the guarantee.
func TestMaximalFormsByHand(t *testing.T) {
	var compared, maximalAlready, several, beyond int
	forms := append(formsToOrder(), formsWithGreatPrimes()...)
	signs := signsOfDiscriminants(forms)
	if slices.Min(signs[:]) < 30 {
		t.Fatalf("discriminants with signs %v", signs)
	}
	for _, f := range forms {
		if discriminantByHand(f) == 0 {
			continue
		}
		last, index, primes := maximalByHand(f)
		maximal, code := impl.MaximalForm(f)
		if code != impl.ErrNone {
			t.Fatalf("MaximalForm(%v) is %v, %d", f, maximal, code)
		}
		wantMaximal(t, f, maximal, impl.ErrNone, index)
		wantNumber(t, "the discriminant", discriminantByHand(maximal)*index*index, 0, discriminantByHand(f), 0)
		wantMaximalAtAll(t, maximal)
		if slices.Max(last[:]) <= 100 && slices.Min(last[:]) >= -100 {
			normal, code := impl.NormalForm(last)
			wantForm(t, "NormalForm of the last form", normal, code, maximal, impl.ErrNone)
			compared++
		}
		slices.Sort(primes)
		switch different := len(slices.Compact(slices.Clone(primes))); {
		case len(primes) == 0:
			maximalAlready++
		case len(primes) > 2 && different > 1:
			several++
		}
		if len(primes) > 0 && primes[len(primes)-1] > 97 {
			beyond++
		}
	}
	if compared < len(forms)/2 || maximalAlready < 100 || several < 100 || beyond < 20 {
		t.Errorf("of %d forms compared %d, maximal %d, with several steps %d, with primes beyond MaxPrime %d", len(forms), compared, maximalAlready, several, beyond)
	}
}

// formsWithGreatPrimes can be raised for prime numbers beyond MaxPrime: pairs of cubes that are near to
// each other lead to some, as f(r, 1) then may be a multiple of p p.
func formsWithGreatPrimes() []impl.Form {
	forms := []impl.Form{
		{1, -24, 22, 23}, {1, -26, 3, -16}, {1, -9, -13, 30}, {1, -27, 5, 23}, {1, -28, 7, 7}, {1, -29, -14, -15},
		{30, 29, -7, 22}, {21, 29, 16, -26}, {17, -11, -11, -28}, {20, 7, -7, 27},
	}
	for n := int64(10); n < 30; n++ {
		forms = append(forms, impl.Form{n, 1, 1, 1 - n}, impl.Form{n, -1, -1, -1 - n}, impl.Form{n, n + 1, n, n + 1})
	}
	return forms
}

// wantMaximalAtAll asks the program at the primes, and looks by hand at all other prime numbers.
func wantMaximalAtAll(t *testing.T, f impl.Form) {
	t.Helper()
	for _, p := range allPrimes {
		is, code := impl.IsMaximalAt(f, p)
		wantBool(t, "IsMaximalAt", is, code, true, impl.ErrNone)
	}
	if g, p, times := stepByHand(f); times != 1 {
		t.Errorf("the maximal form %v leads to %v by %d", f, g, p)
	}
}

// TestMaximalFormsOfRings: forms of which one is reached from the other one by unit matrices, or by
// raising, lowering or dividing, have the same maximal form, and indices go with the steps.
func TestMaximalFormsOfRings(t *testing.T) {
	var raisedCount, loweredCount, changedCount int
	for i, f := range formsToOrder() {
		want, code := impl.MaximalForm(f)
		if code != impl.ErrNone || i%3 > 0 {
			continue
		}
		index, _ := impl.IndexInMaximal(f)
		again := func(g impl.Form, times int64) int {
			if !isWithinMaxRaised(g) {
				return 0
			}
			wantMaximal(t, g, want, impl.ErrNone, times)
			return 1
		}
		for _, m := range []impl.Matrix{{-1, 0, 0, -1}, {0, 1, 1, 0}, {1, 1, 0, 1}, {1, 0, -1, 1}, {2, 1, 1, 1}} {
			if changed, code := impl.ChangeForm(f, m); code == impl.ErrNone {
				changedCount += again(changed, index)
			}
		}
		for _, p := range []int64{2, 3, 5, 7} {
			for r := int64(0); r <= p; r++ {
				if raised, code := impl.RaiseForm(f, p, r); code == impl.ErrNone {
					raisedCount += again(raised, index/p)
				}
				if lowered, code := impl.LowerForm(f, p, r); code == impl.ErrNone {
					loweredCount += again(lowered, index*p)
				}
			}
			again(timesForm(p, f), index*p*p)
		}
	}
	if raisedCount < 100 || loweredCount < 100 || changedCount < 100 {
		t.Errorf("forms raised %d, lowered %d, changed %d", raisedCount, loweredCount, changedCount)
	}
}

// TestMaximalFormsOfFields lowers maximal forms, with discriminants that no square but 1 divides, in
// all ways for several primes, and back.
func TestMaximalFormsOfFields(t *testing.T) {
	chains := 0
	for _, field := range []impl.Form{{-1, -1, -2, -1}, {-1, -1, 0, -1}, {-1, -1, 2, 1}, {0, -1, -1, 1}} {
		want, code := impl.NormalForm(field)
		if code != impl.ErrNone {
			t.Fatalf("NormalForm(%v) is %v, %d", field, want, code)
		}
		rings := map[impl.Form]int64{want: 1}
		frontier := []impl.Form{want}
		for range 3 {
			var next []impl.Form
			for _, f := range frontier {
				for _, p := range []int64{2, 3, 5, 7, 11} {
					below, code := impl.FormsBelow(f, p)
					if code != impl.ErrNone {
						continue
					}
					for _, g := range append(below, timesForm(p, f)) {
						normal, code := impl.NormalForm(g)
						if code != impl.ErrNone || rings[normal] > 0 || !isWithinMaxRaised(normal) {
							continue
						}
						rings[normal] = rings[f] * p
						if g == timesForm(p, f) {
							rings[normal] *= p
						}
						next = append(next, normal)
					}
				}
			}
			frontier = next
		}
		for f, index := range rings {
			wantMaximal(t, f, want, impl.ErrNone, index)
			chains++
		}
	}
	if chains < 200 {
		t.Errorf("only %d rings", chains)
	}
}

// wantCodeOfOrders gives f, p and r to each function of a form and a prime.
func wantCodeOfOrders(t *testing.T, f impl.Form, p, r, want int64) {
	t.Helper()
	points, code := impl.PointsToRaise(f, p)
	wantList(t, "PointsToRaise", points, code, nil, want)
	below, code := impl.FormsBelow(f, p)
	wantForms(t, "FormsBelow", below, code, nil, want)
	g, code := impl.DivideForm(f, p)
	wantForm(t, "DivideForm", g, code, impl.Form{}, want)
	is, code := impl.IsMaximalAt(f, p)
	wantBool(t, "IsMaximalAt", is, code, false, want)
	wantCodeOfPoint(t, f, p, r, want)
}

func wantCodeOfPoint(t *testing.T, f impl.Form, p, r, want int64) {
	t.Helper()
	g, code := impl.RaiseForm(f, p, r)
	wantForm(t, "RaiseForm", g, code, impl.Form{}, want)
	g, code = impl.LowerForm(f, p, r)
	wantForm(t, "LowerForm", g, code, impl.Form{}, want)
}

// TestInvalidOrders: what is no form comes first, whatever p and r are.
func TestInvalidOrders(t *testing.T) {
	for i := range 4 {
		for _, far := range outside(1000) {
			bad := impl.Form{}
			bad[i] = far
			for _, p := range append(slices.Clone(noPrimes), 2, 3, 7, 97) {
				for _, r := range []int64{0, 1, p, -1, 98, math.MaxInt64, math.MinInt64} {
					wantCodeOfOrders(t, bad, p, r, impl.ErrInvalid)
				}
			}
			wantMaximal(t, bad, impl.Form{}, impl.ErrInvalid, 0)
		}
	}
}

// TestOrdersOfNoPrimes has forms that can't be raised, or lead beyond the limit, so that ErrRange is
// seen to come before the other errors.
func TestOrdersOfNoPrimes(t *testing.T) {
	for _, p := range noPrimes {
		for _, f := range []impl.Form{{}, {1, 0, -1, 1}, {16, 16, 32, 1000}, {1000, 1000, 1000, 1000}, {0, 0, 0, 101}} {
			for _, r := range []int64{0, 1, 2, p - 1, p, p + 1, -1} {
				wantCodeOfOrders(t, f, p, r, impl.ErrRange)
			}
		}
	}
}

// TestPointsBeyond: points are 0 to p.
func TestPointsBeyond(t *testing.T) {
	for _, p := range allPrimes {
		for _, f := range []impl.Form{{}, {1, 0, -1, 1}, {p * p % 1000, 0, 1000, 1000}, {1000, 1000, 1000, 1000}} {
			for _, r := range []int64{-1, -p, p + 1, p + 2, 2 * p, 1000, math.MaxInt64, math.MinInt64} {
				wantCodeOfPoint(t, f, p, r, impl.ErrRange)
			}
		}
	}
}

// TestNoMaximalForm: numbers beyond MaxRaised come before the discriminant 0.
func TestNoMaximalForm(t *testing.T) {
	for i := range 4 {
		for _, n := range []int64{31, -31, 32, 100, -101, 1000, -1000} {
			far := impl.Form{}
			far[i] = n
			wantMaximal(t, far, impl.Form{}, impl.ErrRange, 0)
			far = impl.Form{1, 0, -1, 1}
			far[i] = n
			wantMaximal(t, far, impl.Form{}, impl.ErrRange, 0)
		}
	}
	for _, f := range []impl.Form{{}, {1, 0, 0, 0}, {0, 0, 0, -30}, {0, 1, 0, 0}, {1, 3, 3, 1}, {30, 30, -30, -30}, {2, 4, 2, 0}, {27, 27, 9, 1}} {
		wantMaximal(t, f, impl.Form{}, impl.ErrState, 0)
	}
	// The greatest numbers that are taken.
	for i := range 4 {
		for _, n := range []int64{30, -30} {
			f := impl.Form{1, 0, -1, 1}
			f[i] = n
			if index, code := impl.IndexInMaximal(f); index < 1 || code != impl.ErrNone {
				t.Errorf("IndexInMaximal(%v) is %d, %d", f, index, code)
			}
		}
	}
}

// TestOrdersOfZero: the form 0 can be raised and lowered at all points.
func TestOrdersOfZero(t *testing.T) {
	zero := impl.Form{}
	for _, p := range allPrimes {
		var points []int64
		for r := int64(0); r <= p; r++ {
			points = append(points, r)
			g, code := impl.RaiseForm(zero, p, r)
			wantForm(t, "RaiseForm", g, code, zero, impl.ErrNone)
			g, code = impl.LowerForm(zero, p, r)
			wantForm(t, "LowerForm", g, code, zero, impl.ErrNone)
		}
		got, code := impl.PointsToRaise(zero, p)
		wantList(t, "PointsToRaise", got, code, points, impl.ErrNone)
		below, code := impl.FormsBelow(zero, p)
		wantForms(t, "FormsBelow", below, code, make([]impl.Form, p+1), impl.ErrNone)
		g, code := impl.DivideForm(zero, p)
		wantForm(t, "DivideForm", g, code, zero, impl.ErrNone)
		is, code := impl.IsMaximalAt(zero, p)
		wantBool(t, "IsMaximalAt", is, code, false, impl.ErrNone)
	}
}

// TestListsOfOrdersAreNew: a list that the caller changes is not the one of the next call.
func TestListsOfOrdersAreNew(t *testing.T) {
	for range 2 {
		points, code := impl.PointsToRaise(impl.Form{0, 2, -2, 0}, 2)
		wantList(t, "PointsToRaise", points, code, []int64{0, 1, 2}, impl.ErrNone)
		below, code := impl.FormsBelow(impl.Form{0, 1, 1, 0}, 2)
		wantForms(t, "FormsBelow", below, code, []impl.Form{{0, 2, 1, 0}, {0, 2, 3, 1}, {0, 2, -1, 0}}, impl.ErrNone)
		for i := range points {
			points[i] = 77
			below[i] = impl.Form{7, 7, 7, 7}
		}
	}
}
