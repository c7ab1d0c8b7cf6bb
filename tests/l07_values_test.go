package tests

import (
	"math"
	"runtime"
	"slices"
	"testing"
	"time"

	"loop.example/g01342/impl"
)

const million = 1000000

// boxByHand are the places of the box of b in order.
func boxByHand(b int64) [][]int64 {
	var places [][]int64
	for x := -b; x <= b; x++ {
		for y := -b; y <= b; y++ {
			places = append(places, []int64{x, y})
		}
	}
	return places
}

// isPrimitiveByHand tries all common divisors.
func isPrimitiveByHand(x, y int64) bool {
	x, y = max(x, -x), max(y, -y)
	for d := int64(2); d <= max(x, y); d++ {
		if x%d == 0 && y%d == 0 {
			return false
		}
	}
	return x+y > 0
}

// restByHand counts from below for numbers less than 0.
func restByHand(n, m int64) int64 {
	if rest := n % m; rest < 0 {
		return rest + m
	}
	return n % m
}

// placesByHand are the places of the box of b with a value as told, and if asked the primitive ones
// alone.
func placesByHand(f impl.Form, b int64, primitiveAlone bool, isTold func(value int64) bool) [][]int64 {
	var places [][]int64
	for _, at := range boxByHand(b) {
		if isTold(valueByHand(f, at[0], at[1])) && (!primitiveAlone || isPrimitiveByHand(at[0], at[1])) {
			places = append(places, at)
		}
	}
	return places
}

func leastByHand(f impl.Form, b int64) (int64, [][]int64) {
	least := int64(math.MaxInt64)
	for _, at := range placesByHand(f, b, true, func(v int64) bool { return v != 0 }) {
		value := valueByHand(f, at[0], at[1])
		least = min(least, max(value, -value))
	}
	places := placesByHand(f, b, true, func(v int64) bool { return v == least || v == -least })
	if len(places) == 0 {
		return 0, nil
	}
	return least, places
}

// nearestByHand are all places whose values have the least difference from n, in order.
func nearestByHand(f impl.Form, n, b int64) [][]int64 {
	difference := func(v int64) int64 { return max(v-n, n-v) }
	least := difference(0)
	for _, at := range boxByHand(b) {
		least = min(least, difference(valueByHand(f, at[0], at[1])))
	}
	return placesByHand(f, b, false, func(v int64) bool { return difference(v) == least })
}

func valuesInBoxByHand(f impl.Form, b int64) []int64 {
	var values []int64
	for _, at := range boxByHand(b) {
		values = append(values, valueByHand(f, at[0], at[1]))
	}
	slices.Sort(values)
	return slices.Compact(values)
}

// countsByHand are the numbers of places by rests, of the square of m places from start on.
func countsByHand(f impl.Form, start, m int64) []int64 {
	counts := make([]int64, m)
	for x := start; x < start+m; x++ {
		for y := start; y < start+m; y++ {
			counts[restByHand(valueByHand(f, x, y), m)]++
		}
	}
	return counts
}

func valuesOfCounts(counts []int64) []int64 {
	var values []int64
	for rest, count := range counts {
		if count > 0 {
			values = append(values, int64(rest))
		}
	}
	return values
}

func negativesOf(places [][]int64) [][]int64 {
	var negatives [][]int64
	for _, at := range places {
		negatives = append(negatives, []int64{-at[0], -at[1]})
	}
	slices.Reverse(negatives)
	return negatives
}

// formsWithValues have rational roots, at 1, 0 and 0, 1 too, and none, contents greater than 1, and
// the limits.
func formsWithValues() []impl.Form {
	return slices.Concat(sampleForms(), mixedForms(20)[20:], []impl.Form{
		{0, 0, 0, 1}, {2, 0, 0, 0}, {0, 2, 0, 0}, {0, 0, -3, 0}, {1, 1, 0, 0}, {6, -11, 6, -1}, {1, 0, -1, 0},
		{2, 0, 0, 2}, {3, 0, 0, -5}, {0, 64, 0, 0}, {7, 0, 14, 21}, {0, 40, -39, 0}, {61, 0, 0, 122},
	})
}

func wantLeast(t *testing.T, f impl.Form, b, want int64, wantPlaces [][]int64, wantCode int64) {
	t.Helper()
	least, places, code := impl.LeastValue(f, b)
	if least != want || !slices.EqualFunc(places, wantPlaces, slices.Equal) || code != wantCode {
		t.Errorf("LeastValue(%v, %d) = %d, %v, %d, want %d, %v, %d", f, b, least, places, code, want, wantPlaces, wantCode)
	}
}

func wantNearest(t *testing.T, f impl.Form, n, b int64, wantPlace []int64, want, wantCode int64) {
	t.Helper()
	place, value, code := impl.NearestPlace(f, n, b)
	if !slices.Equal(place, wantPlace) || value != want || code != wantCode {
		t.Errorf("NearestPlace(%v, %d, %d) = %v, %d, %d, want %v, %d, %d", f, n, b, place, value, code, wantPlace, want, wantCode)
	}
}

func TestLimitsOfValues(t *testing.T) {
	if impl.MaxBound != 40 || impl.MaxModulus != 64 {
		t.Errorf("limits %d, %d", impl.MaxBound, impl.MaxModulus)
	}
}

func TestPlacesOf(t *testing.T) {
	f, cubes, greatest := impl.Form{1, 0, -1, 1}, impl.Form{1, 0, 0, 1}, impl.Form{1000, 1000, 1000, 1000}
	cases := []struct {
		f    impl.Form
		n, b int64
		want [][]int64
	}{
		{f, 1, 2, [][]int64{{-1, 1}, {0, 1}, {1, 0}, {1, 1}}},
		{f, -1, 2, [][]int64{{-1, -1}, {-1, 0}, {0, -1}, {1, -1}}},
		{f, 5, 2, [][]int64{{1, 2}, {2, -1}}},
		{f, 5, 1, nil},
		{f, 3, 40, nil},
		{f, 1000 * million, 40, nil},
		{f, -1000 * million, 40, nil},
		// Only 0, 0 has the value 0, and the box of 0 has no other place.
		{f, 0, 5, [][]int64{{0, 0}}},
		{f, 0, 0, [][]int64{{0, 0}}},
		{f, 1, 0, nil},
		{cubes, 1729, 12, [][]int64{{1, 12}, {9, 10}, {10, 9}, {12, 1}}},
		{cubes, 1729, 11, [][]int64{{9, 10}, {10, 9}}},
		{cubes, 0, 1, [][]int64{{-1, 1}, {0, 0}, {1, -1}}},
		{cubes, 2, 40, [][]int64{{1, 1}}},
		// Places that are not primitive, and roots at 1, 0 and 0, 1.
		{impl.Form{2, 0, 0, 0}, 16, 2, [][]int64{{2, -2}, {2, -1}, {2, 0}, {2, 1}, {2, 2}}},
		{impl.Form{0, 1, 1, 0}, 6, 6, [][]int64{{-3, 1}, {-3, 2}, {1, -3}, {1, 2}, {2, -3}, {2, 1}}},
		{impl.Form{0, 1, 1, 0}, 0, 1, [][]int64{{-1, 0}, {-1, 1}, {0, -1}, {0, 0}, {0, 1}, {1, -1}, {1, 0}}},
		{impl.Form{}, 0, 1, boxByHand(1)},
		{impl.Form{}, 0, 40, boxByHand(40)},
		{impl.Form{}, 1, 40, nil},
		{greatest, 256 * million, 40, [][]int64{{40, 40}}},
		{greatest, -256 * million, 40, [][]int64{{-40, -40}}},
		{greatest, 256 * million, 39, nil},
	}
	for _, c := range cases {
		places, code := impl.PlacesOf(c.f, c.n, c.b)
		wantRows(t, "PlacesOf", places, code, c.want, impl.ErrNone)
	}
}

func TestCountPlaces(t *testing.T) {
	f, cubes := impl.Form{1, 0, -1, 1}, impl.Form{1, 0, 0, 1}
	cases := []struct {
		f            impl.Form
		low, high, b int64
		want         int64
	}{
		{f, -1, 1, 1, 8},
		{f, -10, 10, 3, 16},
		{f, 0, 0, 40, 0},
		{f, -1000 * million, 1000 * million, 0, 0},
		{cubes, 0, 0, 3, 2},
		{cubes, -1000 * million, 1000 * million, 2, 16},
		{cubes, -1000 * million, 1000 * million, 40, 3920},
		{cubes, 1000 * million, 1000 * million, 40, 0},
		{cubes, -1000 * million, -1000 * million, 40, 0},
		{impl.Form{}, 0, 0, 1, 8},
		{impl.Form{}, 1, 5, 1, 0},
		// Both ends of a range belong to it.
		{impl.Form{2, 0, 0, 2}, 2, 2, 1, 2},
		{impl.Form{2, 0, 0, 2}, 2, 4, 1, 3},
		{impl.Form{2, 0, 0, 2}, 3, 4, 1, 1},
		{impl.Form{2, 0, 0, 2}, 3, 3, 1, 0},
		{impl.Form{2, 0, 0, 2}, -4, -2, 1, 3},
		{impl.Form{1000, 1000, 1000, 1000}, 255 * million, 256 * million, 40, 0},
	}
	for _, c := range cases {
		n, code := impl.CountPlaces(c.f, c.low, c.high, c.b)
		wantNumber(t, "CountPlaces", n, code, c.want, impl.ErrNone)
	}
}

func TestLeastValue(t *testing.T) {
	cases := []struct {
		f       impl.Form
		b, want int64
		places  [][]int64
	}{
		{impl.Form{2, 0, 0, 2}, 1, 2, [][]int64{{-1, 0}, {0, -1}, {0, 1}, {1, 0}}},
		{impl.Form{1, 0, -1, 1}, 1, 1, [][]int64{{-1, -1}, {-1, 0}, {-1, 1}, {0, -1}, {0, 1}, {1, -1}, {1, 0}, {1, 1}}},
		{impl.Form{1, 0, 0, 1}, 5, 1, [][]int64{{-1, 0}, {0, -1}, {0, 1}, {1, 0}}},
		{impl.Form{6, 0, 0, -48}, 3, 6, [][]int64{{-1, 0}, {1, 0}}},
		// Values 0 are left out.
		{impl.Form{0, 1, 1, 0}, 2, 2, [][]int64{{-2, 1}, {-1, -1}, {-1, 2}, {1, -2}, {1, 1}, {2, -1}}},
		{impl.Form{0, 0, 5, 0}, 2, 5, [][]int64{{-1, -1}, {-1, 1}, {1, -1}, {1, 1}}},
		{impl.Form{0, 2, 0, -4}, 5, 2, [][]int64{{-1, -1}, {-1, 1}, {1, -1}, {1, 1}}},
		// The least value comes late, and a greater box has a lesser one.
		{impl.Form{999, 0, 0, 1000}, 3, 1, [][]int64{{-1, 1}, {1, -1}}},
		{impl.Form{13, -40, 7, 22}, 10, 2, [][]int64{{-1, -1}, {1, 1}}},
		{impl.Form{9, 0, 0, -1000}, 1, 9, [][]int64{{-1, 0}, {1, 0}}},
		{impl.Form{27, 0, 0, -1000}, 10, 27, [][]int64{{-1, 0}, {1, 0}}},
		{impl.Form{35, 0, 0, -118}, 3, 1, [][]int64{{-3, -2}, {3, 2}}},
		{impl.Form{35, 0, 0, -118}, 2, 35, [][]int64{{-1, 0}, {1, 0}}},
	}
	for _, c := range cases {
		wantLeast(t, c.f, c.b, c.want, c.places, impl.ErrNone)
	}
	for _, b := range []int64{0, 1, 10, 11, 40} {
		wantLeast(t, impl.Form{}, b, 0, nil, impl.ErrNotFound)
	}
	for _, f := range formsWithValues() {
		wantLeast(t, f, 0, 0, nil, impl.ErrNotFound)
	}
}

func TestNearestPlace(t *testing.T) {
	f, cubes, greatest := impl.Form{1, 0, -1, 1}, impl.Form{1, 0, 0, 1}, impl.Form{1000, 1000, 1000, 1000}
	cases := []struct {
		f     impl.Form
		n, b  int64
		place []int64
		value int64
	}{
		{f, 6, 2, []int64{1, 2}, 5},
		{f, 1000, 3, []int64{-2, 3}, 37},
		{f, -3, 2, []int64{-2, 1}, -5},
		{f, 1000 * million, 40, []int64{-23, 40}, 88633},
		{f, -1000 * million, 40, []int64{23, -40}, -88633},
		{f, 7, 0, []int64{0, 0}, 0},
		{cubes, 4, 3, []int64{1, 1}, 2},
		{cubes, 1729, 40, []int64{1, 12}, 1729},
		// The first one of several with the least difference, lesser or greater than n.
		{impl.Form{2, 0, 0, 0}, 1, 1, []int64{0, -1}, 0},
		{impl.Form{2, 0, 0, 0}, -1, 1, []int64{-1, -1}, -2},
		{impl.Form{2, 0, 0, 0}, 3, 1, []int64{1, -1}, 2},
		{impl.Form{-2, 0, 0, 0}, 1, 1, []int64{-1, -1}, 2},
		{impl.Form{2, 0, 0, 4}, 3, 1, []int64{-1, 1}, 2},
		{impl.Form{4, 0, 0, 2}, 3, 1, []int64{0, 1}, 2},
		{impl.Form{4, 0, 0, 2}, -3, 1, []int64{-1, 0}, -4},
		{impl.Form{}, 7, 3, []int64{-3, -3}, 0},
		{impl.Form{}, 0, 40, []int64{-40, -40}, 0},
		{greatest, 1000 * million, 40, []int64{40, 40}, 256 * million},
		{greatest, -1000 * million, 40, []int64{-40, -40}, -256 * million},
	}
	for _, c := range cases {
		wantNearest(t, c.f, c.n, c.b, c.place, c.value, impl.ErrNone)
	}
}

func TestZerosInBox(t *testing.T) {
	cases := []struct {
		f    impl.Form
		b    int64
		want [][]int64
	}{
		{impl.Form{1, 0, 0, 1}, 3, [][]int64{{-1, 1}, {1, -1}}},
		{impl.Form{1, 0, -1, 1}, 40, nil},
		{impl.Form{0, 1, 1, 0}, 2, [][]int64{{-1, 0}, {-1, 1}, {0, -1}, {0, 1}, {1, -1}, {1, 0}}},
		{impl.Form{6, -11, 6, -1}, 3, [][]int64{{-1, -3}, {-1, -2}, {-1, -1}, {1, 1}, {1, 2}, {1, 3}}},
		{impl.Form{6, -11, 6, -1}, 2, [][]int64{{-1, -2}, {-1, -1}, {1, 1}, {1, 2}}},
		{impl.Form{1, 1, 0, 0}, 1, [][]int64{{-1, 1}, {0, -1}, {0, 1}, {1, -1}}},
		{impl.Form{0, 0, 0, 1}, 40, [][]int64{{-1, 0}, {1, 0}}},
		{impl.Form{-1000, 0, 0, 0}, 40, [][]int64{{0, -1}, {0, 1}}},
		{impl.Form{0, 40, -39, 0}, 40, [][]int64{{-39, -40}, {-1, 0}, {0, -1}, {0, 1}, {1, 0}, {39, 40}}},
		{impl.Form{0, 40, -39, 0}, 39, [][]int64{{-1, 0}, {0, -1}, {0, 1}, {1, 0}}},
		{impl.Form{}, 1, [][]int64{{-1, -1}, {-1, 0}, {-1, 1}, {0, -1}, {0, 1}, {1, -1}, {1, 0}, {1, 1}}},
		{impl.Form{}, 0, nil},
		{impl.Form{1, 0, 0, 1}, 0, nil},
	}
	for _, c := range cases {
		places, code := impl.ZerosInBox(c.f, c.b)
		wantRows(t, "ZerosInBox", places, code, c.want, impl.ErrNone)
	}
}

func TestValuesInBoxAndCommonValues(t *testing.T) {
	f, cubes := impl.Form{1, 0, -1, 1}, impl.Form{1, 0, 0, 1}
	for _, c := range []struct {
		f    impl.Form
		b    int64
		want []int64
	}{
		{f, 0, []int64{0}},
		{f, 1, []int64{-1, 0, 1}},
		{f, 2, []int64{-11, -8, -7, -5, -1, 0, 1, 5, 7, 8, 11}},
		{cubes, 2, []int64{-16, -9, -8, -7, -2, -1, 0, 1, 2, 7, 8, 9, 16}},
		{impl.Form{7, 0, 0, 0}, 3, []int64{-189, -56, -7, 0, 7, 56, 189}},
		{impl.Form{1000, 1000, 1000, 1000}, 1, []int64{-4000, -1000, 0, 1000, 4000}},
		{impl.Form{}, 0, []int64{0}},
		{impl.Form{}, 10, []int64{0}},
	} {
		values, code := impl.ValuesInBox(c.f, c.b)
		wantList(t, "ValuesInBox", values, code, c.want, impl.ErrNone)
	}
	for _, c := range []struct {
		f, g impl.Form
		b    int64
		want []int64
	}{
		{cubes, impl.Form{1, 0, 0, -1}, 1, []int64{-2, -1, 1, 2}},
		{cubes, impl.Form{1, 0, 0, 2}, 2, []int64{-16, -8, -2, -1, 1, 2, 8, 16}},
		{f, cubes, 2, []int64{-8, -7, -1, 1, 7, 8}},
		{impl.Form{2, 0, 0, 4}, impl.Form{0, 3, 0, 6}, 2, []int64{-48, -6, 6, 48}},
		{impl.Form{5, 5, 5, 5}, impl.Form{-5, -5, -5, -5}, 1, []int64{-20, -5, 5, 20}},
		{cubes, cubes, 1, []int64{-2, -1, 1, 2}},
		// Only the value 0 is common to these.
		{impl.Form{2, 0, 0, 0}, impl.Form{3, 0, 0, 0}, 10, nil},
		{impl.Form{}, cubes, 10, nil},
		{cubes, impl.Form{}, 10, nil},
		{impl.Form{}, impl.Form{}, 10, nil},
		{cubes, cubes, 0, nil},
	} {
		values, code := impl.CommonValues(c.f, c.g, c.b)
		wantList(t, "CommonValues", values, code, c.want, impl.ErrNone)
		values, code = impl.CommonValues(c.g, c.f, c.b)
		wantList(t, "CommonValues in the other order", values, code, c.want, impl.ErrNone)
	}
}

// wantPlaces compares what is told of a form, a value and a box with what the chapter says. The
// promise 7 is among it: places have the value, and those of the negative value are their negatives.
// It returns the number of places.
func wantPlaces(t *testing.T, f impl.Form, n, b int64) int {
	t.Helper()
	want := placesByHand(f, b, false, func(v int64) bool { return v == n })
	places, code := impl.PlacesOf(f, n, b)
	wantRows(t, "PlacesOf", places, code, want, impl.ErrNone)
	for _, at := range places {
		value, code := impl.ValueAt(f, at[0], at[1])
		wantNumber(t, "ValueAt a place told", value, code, n, impl.ErrNone)
	}
	negatives, code := impl.PlacesOf(f, -n, b)
	wantRows(t, "PlacesOf the negative", negatives, code, negativesOf(places), impl.ErrNone)
	nearest := nearestByHand(f, n, b)
	wantNearest(t, f, n, b, nearest[0], valueByHand(f, nearest[0][0], nearest[0][1]), impl.ErrNone)
	return len(places)
}

// TestPlacesByHand looks for all values in small boxes, and for the numbers beside them.
func TestPlacesByHand(t *testing.T) {
	var with, without, several, ties int
	for _, f := range formsWithValues() {
		for _, b := range []int64{0, 1, 2, 4} {
			for i, value := range valuesInBoxByHand(f, b) {
				if i%7 > 1 {
					continue
				}
				for _, n := range []int64{value, value + 1, value - 3} {
					count := wantPlaces(t, f, n, b)
					switch {
					case count == 0:
						without++
					case count > 1:
						several++
					}
					with += count
					nearest := nearestByHand(f, n, b)
					first := valueByHand(f, nearest[0][0], nearest[0][1])
					if slices.ContainsFunc(nearest, func(at []int64) bool { return valueByHand(f, at[0], at[1]) != first }) {
						ties++
					}
				}
			}
		}
	}
	if with < 1000 || without < 500 || several < 200 || ties < 20 {
		t.Errorf("%d places, %d numbers without, %d with several, %d between two values", with, without, several, ties)
	}
}

// TestBoxesByHand has boxes of all sizes at the limits, with what is told of primitive places and of
// different values.
func TestBoxesByHand(t *testing.T) {
	var zeros, pairs int
	forms := formsWithValues()
	for i, f := range forms {
		for _, b := range []int64{1, 2, 3, 10, 11, 40} {
			if b > 3 && i%3 > 0 {
				continue
			}
			least, places := leastByHand(f, b)
			wantCode := int64(impl.ErrNone)
			if least == 0 {
				wantCode = impl.ErrNotFound
			}
			wantLeast(t, f, b, least, places, wantCode)
			want := placesByHand(f, b, true, func(v int64) bool { return v == 0 })
			got, code := impl.ZerosInBox(f, b)
			wantRows(t, "ZerosInBox", got, code, want, impl.ErrNone)
			zeros += len(got)
			for _, ends := range [][2]int64{{-50, 50}, {0, 1000 * million}, {1, 1}, {-1000 * million, -30}, {least, 3 * least}} {
				want := placesByHand(f, b, true, func(v int64) bool { return ends[0] <= v && v <= ends[1] })
				n, code := impl.CountPlaces(f, ends[0], ends[1], b)
				wantNumber(t, "CountPlaces", n, code, int64(len(want)), impl.ErrNone)
			}
			if b <= 10 {
				pairs += wantListed(t, f, forms[(i*7+1)%len(forms)], b)
			}
		}
	}
	if zeros < 100 || pairs < 20 {
		t.Errorf("%d zeros, %d pairs with common values", zeros, pairs)
	}
}

// wantListed returns 1 if f and g have common values.
func wantListed(t *testing.T, f, g impl.Form, b int64) int {
	t.Helper()
	values, others := valuesInBoxByHand(f, b), valuesInBoxByHand(g, b)
	got, code := impl.ValuesInBox(f, b)
	wantList(t, "ValuesInBox", got, code, values, impl.ErrNone)
	var want []int64
	for _, n := range values {
		if n != 0 && slices.Contains(others, n) {
			want = append(want, n)
		}
	}
	got, code = impl.CommonValues(f, g, b)
	wantList(t, "CommonValues", got, code, want, impl.ErrNone)
	return min(len(want), 1)
}

// TestZerosAreRationalRoots: the zeros of a form are its rational roots and their negatives.
func TestZerosAreRationalRoots(t *testing.T) {
	for _, f := range factorableForms() {
		roots, code := impl.RationalRoots(f)
		if code != impl.ErrNone {
			t.Fatalf("RationalRoots(%v) is %v, %d", f, roots, code)
		}
		want := slices.Concat(roots, negativesOf(roots))
		slices.SortFunc(want, slices.Compare)
		zeros, code := impl.ZerosInBox(f, 7)
		wantRows(t, "ZerosInBox", zeros, code, want, impl.ErrNone)
	}
}

func TestValuesModulo(t *testing.T) {
	f, cubes := impl.Form{1, 0, -1, 1}, impl.Form{1, 0, 0, 1}
	for _, c := range []struct {
		f    impl.Form
		m    int64
		want []int64
	}{
		{cubes, 9, []int64{0, 1, 2, 7, 8}},
		{cubes, 7, []int64{0, 1, 2, 5, 6}},
		{f, 1, []int64{0}},
		{f, 2, []int64{0, 1}},
		{f, 7, []int64{0, 1, 2, 3, 4, 5, 6}},
		{impl.Form{0, 1, 1, 0}, 2, []int64{0}},
		{impl.Form{1, 0, 0, 0}, 13, []int64{0, 1, 5, 8, 12}},
		{impl.Form{0, 0, 0, -1}, 13, []int64{0, 1, 5, 8, 12}},
		{impl.Form{-1000, -1000, -1000, -1000}, 6, []int64{0, 2, 4}},
		{impl.Form{1000, 1000, 1000, 1000}, 64, []int64{0, 8, 24, 32, 40, 56}},
		{impl.Form{64, 0, 0, 0}, 64, []int64{0}},
		{impl.Form{}, 1, []int64{0}},
		{impl.Form{}, 64, []int64{0}},
	} {
		values, code := impl.ValuesModulo(c.f, c.m)
		wantList(t, "ValuesModulo", values, code, c.want, impl.ErrNone)
	}
	for _, c := range []struct {
		f          impl.Form
		n, m, want int64
	}{
		{cubes, 0, 3, 3},
		{cubes, 1, 9, 18},
		{cubes, -1, 9, 18},
		{cubes, 3, 9, 0},
		{f, 0, 1, 1},
		{f, 5, 1, 1},
		{f, 0, 2, 1},
		{f, 0, 23, 45},
		{f, 7, 64, 96},
		{impl.Form{0, 1, 1, 0}, 0, 2, 4},
		{impl.Form{}, 64, 64, 4096},
		{impl.Form{}, 1, 64, 0},
		{cubes, 1000 * million, 61, 60},
		{impl.Form{1000, 1000, 1000, 1000}, 1000 * million, 64, 1536},
		{impl.Form{1000, 1000, 1000, 1000}, -1000 * million, 63, 72},
	} {
		n, code := impl.CountModulo(c.f, c.n, c.m)
		wantNumber(t, "CountModulo", n, code, c.want, impl.ErrNone)
	}
}

// TestCountsByHand looks at all m, and also at squares of places that do not start at 0, as the values
// modulo m are those at all places. It has the rest of the promise 7: counts add up to m m.
func TestCountsByHand(t *testing.T) {
	missing := 0
	for i, f := range formsWithValues() {
		for m := int64(1); m <= 64; m++ {
			if (int64(i)+m)%5 > 0 && m > 2 && m < 64 {
				continue
			}
			counts := countsByHand(f, 0, m)
			if far := countsByHand(f, -20-m, m); !slices.Equal(counts, far) {
				t.Fatalf("%v has the counts %v and %v modulo %d", f, counts, far, m)
			}
			values, code := impl.ValuesModulo(f, m)
			wantList(t, "ValuesModulo", values, code, valuesOfCounts(counts), impl.ErrNone)
			missing += int(m) - len(values)
			var sum int64
			for rest, want := range counts {
				n := int64(rest) + m*(int64(rest)%7-3)
				count, code := impl.CountModulo(f, n, m)
				wantNumber(t, "CountModulo", count, code, want, impl.ErrNone)
				sum += count
			}
			wantNumber(t, "the sum of all counts", sum, 0, m*m, 0)
		}
	}
	if missing < 1000 {
		t.Errorf("only %d rests are no values", missing)
	}
}

// TestCountsFollowFromRoots is the promise 17: each root is p - 1 places, and 0, 0 is one more.
func TestCountsFollowFromRoots(t *testing.T) {
	var counts [4]int
	forms := slices.Concat(formsWithValues(), factorableForms())
	for _, p := range allPrimes {
		if p > impl.MaxModulus {
			continue
		}
		for _, f := range append(forms, timesForm(p, impl.Form{1, -2, 3, 5})) {
			roots, code := impl.CountRoots(f, p)
			if code != impl.ErrNone {
				t.Fatalf("CountRoots(%v, %d) is %d, %d", f, p, roots, code)
			}
			counts[min(roots, 3)]++
			n, code := impl.CountModulo(f, 0, p)
			wantNumber(t, "CountModulo of 0", n, code, 1+(p-1)*roots, impl.ErrNone)
			n, code = impl.CountModulo(f, -5*p, p)
			wantNumber(t, "CountModulo of a multiple", n, code, 1+(p-1)*roots, impl.ErrNone)
		}
	}
	if slices.Min(counts[:]) < 50 {
		t.Errorf("forms by roots: %v", counts)
	}
}

// TestCountsOfChangedForms: forms changed by unit matrices have the same counts and obstructions.
func TestCountsOfChangedForms(t *testing.T) {
	for _, f := range []impl.Form{{1, 0, -1, 1}, {1, 0, 0, 1}, {0, 2, -3, 0}, {3, 0, 0, -5}, {5, 0, 10, -15}} {
		for _, m := range []impl.Matrix{{0, 1, 1, 0}, {1, 1, 0, 1}, {2, 1, 1, 1}, {2, -3, -1, 2}, {-1, 0, 0, -1}} {
			g, code := impl.ChangeForm(f, m)
			if code != impl.ErrNone {
				t.Fatalf("ChangeForm(%v, %v) is %v, %d", f, m, g, code)
			}
			for modulus := int64(1); modulus <= 64; modulus++ {
				for _, n := range []int64{0, 1, -7} {
					want, _ := impl.CountModulo(f, n, modulus)
					got, code := impl.CountModulo(g, n, modulus)
					wantNumber(t, "CountModulo of the changed form", got, code, want, impl.ErrNone)
				}
			}
			for n := int64(-5); n <= 5; n++ {
				want, wantCode := impl.ObstructionOf(f, n)
				got, code := impl.ObstructionOf(g, n)
				wantNumber(t, "ObstructionOf the changed form", got, code, want, wantCode)
			}
		}
	}
}

func TestObstructionOf(t *testing.T) {
	f, cubes := impl.Form{1, 0, -1, 1}, impl.Form{1, 0, 0, 1}
	for _, c := range []struct {
		f       impl.Form
		n, want int64
	}{
		{cubes, 3, 7}, {cubes, 4, 7}, {cubes, 5, 9}, {cubes, 6, 9}, {cubes, -3, 7}, {cubes, -5, 9}, {cubes, 12, 9},
		{f, 2, 4}, {f, -2, 4}, {f, 3, 9}, {f, 4, 8}, {f, 9, 27}, {f, -9, 27},
		{impl.Form{3, 0, 0, -5}, 7, 49}, {impl.Form{3, 0, 0, -5}, 6, 27},
		{impl.Form{0, 2, 0, 0}, 1, 2}, {impl.Form{0, 2, 0, 0}, -1, 2}, {impl.Form{0, 64, 0, 0}, 2, 4},
		// By the greatest m, and by the greatest prime number.
		{impl.Form{0, 64, 0, 0}, 32, 64}, {impl.Form{0, 64, 0, 0}, -32, 64}, {impl.Form{0, 61, 0, 0}, 1, 61},
		{impl.Form{0, 61, 0, 0}, 1000 * million, 61}, {impl.Form{0, 0, 1000, 0}, 1000*million - 1, 2},
		{impl.Form{}, 1, 2}, {impl.Form{}, -2, 3}, {impl.Form{}, 12, 5}, {impl.Form{}, 720720, 17},
		{impl.Form{}, 1000 * million, 3}, {impl.Form{}, -1000 * million, 3},
	} {
		m, code := impl.ObstructionOf(c.f, c.n)
		wantNumber(t, "ObstructionOf", m, code, c.want, impl.ErrNone)
	}
	for _, c := range []struct {
		f impl.Form
		n int64
	}{
		{cubes, 0}, {cubes, 2}, {cubes, -2}, {cubes, 7}, {f, 0}, {f, 1}, {f, 5}, {f, 7}, {impl.Form{}, 0},
		{impl.Form{0, 1, 0, 0}, 1000 * million}, {impl.Form{0, 1, 0, 0}, -1000 * million},
		// These are no values, but no m of at most 64 tells it.
		{impl.Form{0, 128, 0, 0}, 64}, {impl.Form{0, 67, 0, 0}, 1},
	} {
		m, code := impl.ObstructionOf(c.f, c.n)
		wantNumber(t, "ObstructionOf", m, code, 0, impl.ErrNotFound)
	}
}

// TestObstructionsByHand is the rest of the guarantee: obstructed numbers have no places. The values
// of boxes have no obstructions.
func TestObstructionsByHand(t *testing.T) {
	var obstructed, free int
	for i, f := range formsWithValues() {
		if i%2 > 0 {
			continue
		}
		var values [65][]int64
		for m := int64(2); m <= 64; m++ {
			values[m] = valuesOfCounts(countsByHand(f, 0, m))
		}
		sought := []int64{0, 1, 2, 3, -4, 5, -6, 9, 31, 64, -125, 1000, 999999937}
		for _, at := range boxByHand(1) {
			sought = append(sought, valueByHand(f, 5*at[0], 3*at[1]))
		}
		for _, n := range sought {
			want, wantCode := int64(0), int64(impl.ErrNotFound)
			for m := int64(64); m >= 2; m-- {
				if !slices.Contains(values[m], restByHand(n, m)) {
					want, wantCode = m, impl.ErrNone
				}
			}
			m, code := impl.ObstructionOf(f, n)
			wantNumber(t, "ObstructionOf", m, code, want, wantCode)
			if wantCode == impl.ErrNotFound {
				free++
				continue
			}
			obstructed++
			places, code := impl.PlacesOf(f, n, 40)
			wantRows(t, "PlacesOf an obstructed number", places, code, nil, impl.ErrNone)
		}
	}
	if obstructed < 50 || free < 50 {
		t.Errorf("%d numbers are obstructed, %d are not", obstructed, free)
	}
}

// wantCodeOfBox gives f, numbers sought and b to each function of a box.
func wantCodeOfBox(t *testing.T, f impl.Form, n, b, want int64) {
	t.Helper()
	places, code := impl.PlacesOf(f, n, b)
	wantRows(t, "PlacesOf", places, code, nil, want)
	wantNearest(t, f, n, b, nil, 0, want)
	for _, ends := range [][2]int64{{n, n}, {n, 0}, {0, n}, {n, -1000 * million}, {1000 * million, n}} {
		count, code := impl.CountPlaces(f, ends[0], ends[1], b)
		wantNumber(t, "CountPlaces", count, code, 0, want)
	}
}

// wantCodeOfBound gives f and b to the functions of a box that take no number beside.
func wantCodeOfBound(t *testing.T, f impl.Form, b, want int64) {
	t.Helper()
	wantLeast(t, f, b, 0, nil, want)
	places, code := impl.ZerosInBox(f, b)
	wantRows(t, "ZerosInBox", places, code, nil, want)
}

func wantCodeOfListed(t *testing.T, f, g impl.Form, b, want int64) {
	t.Helper()
	values, code := impl.CommonValues(f, g, b)
	wantList(t, "CommonValues", values, code, nil, want)
}

func wantCodeOfModulus(t *testing.T, f impl.Form, n, m, want int64) {
	t.Helper()
	count, code := impl.CountModulo(f, n, m)
	wantNumber(t, "CountModulo", count, code, 0, want)
}

// boundsBeyond are refused as the b of a box, whatever is asked.
func boundsBeyond() []int64 { return append(outside(40), -1, -2, -10, -40, 42, 64, 1000) }

// TestInvalidValues: what is no form comes first, whatever the numbers are.
func TestInvalidValues(t *testing.T) {
	good := impl.Form{1, 0, -1, 1}
	for i := range 4 {
		for _, far := range outside(1000) {
			bad := impl.Form{}
			bad[i] = far
			for _, b := range append(boundsBeyond(), 0, 1, 10, 11, 40) {
				for _, n := range append(outside(1000*million), 0, 1, 1000*million) {
					wantCodeOfBox(t, bad, n, b, impl.ErrInvalid)
					wantCodeOfModulus(t, bad, n, b, impl.ErrInvalid)
				}
				wantCodeOfBound(t, bad, b, impl.ErrInvalid)
				values, code := impl.ValuesInBox(bad, b)
				wantList(t, "ValuesInBox", values, code, nil, impl.ErrInvalid)
				wantCodeOfListed(t, bad, good, b, impl.ErrInvalid)
				wantCodeOfListed(t, good, bad, b, impl.ErrInvalid)
				wantCodeOfListed(t, bad, bad, b, impl.ErrInvalid)
				values, code = impl.ValuesModulo(bad, b)
				wantList(t, "ValuesModulo", values, code, nil, impl.ErrInvalid)
			}
			for _, n := range append(outside(1000*million), 0, 1) {
				m, code := impl.ObstructionOf(bad, n)
				wantNumber(t, "ObstructionOf", m, code, 0, impl.ErrInvalid)
			}
			count, code := impl.CountPlaces(bad, 1, 0, 1)
			wantNumber(t, "CountPlaces", count, code, 0, impl.ErrInvalid)
		}
	}
}

// TestBoundsBeyond has forms without values other than 0, so that ErrRange is seen to come before
// ErrNotFound.
func TestBoundsBeyond(t *testing.T) {
	for _, f := range []impl.Form{{}, {1, 0, -1, 1}, {0, 0, 0, 1}, {1000, -1000, 1000, -1000}} {
		for _, b := range boundsBeyond() {
			for _, n := range append(outside(1000*million), 0, 1, -1000*million) {
				wantCodeOfBox(t, f, n, b, impl.ErrRange)
			}
			wantCodeOfBound(t, f, b, impl.ErrRange)
		}
		for _, b := range append(boundsBeyond(), 11, 12, 20, 39, 40) {
			values, code := impl.ValuesInBox(f, b)
			wantList(t, "ValuesInBox", values, code, nil, impl.ErrRange)
			wantCodeOfListed(t, f, impl.Form{1, 0, 0, 1}, b, impl.ErrRange)
			wantCodeOfListed(t, impl.Form{1, 0, 0, 1}, f, b, impl.ErrRange)
		}
		for _, n := range outside(1000 * million) {
			for _, b := range []int64{0, 1, 10, 40} {
				wantCodeOfBox(t, f, n, b, impl.ErrRange)
			}
			for m := int64(1); m <= 64; m++ {
				wantCodeOfModulus(t, f, n, m, impl.ErrRange)
			}
			m, code := impl.ObstructionOf(f, n)
			wantNumber(t, "ObstructionOf", m, code, 0, impl.ErrRange)
		}
	}
}

func TestModuliBeyond(t *testing.T) {
	for _, f := range []impl.Form{{}, {1, 0, -1, 1}, {0, 0, 0, 1}, {1000, -1000, 1000, -1000}} {
		for _, m := range append(outside(64), 0, -1, -2, -7, -64, 67, 97, 100, 128) {
			values, code := impl.ValuesModulo(f, m)
			wantList(t, "ValuesModulo", values, code, nil, impl.ErrRange)
			for _, n := range append(outside(1000*million), 0, 1, m) {
				wantCodeOfModulus(t, f, n, m, impl.ErrRange)
			}
		}
	}
}

// TestLowGreaterThanHigh: also if no place has a value in between, or there is none at all.
func TestLowGreaterThanHigh(t *testing.T) {
	for _, f := range []impl.Form{{}, {1, 0, -1, 1}, {1000, 0, 0, 0}} {
		for _, b := range []int64{0, 1, 40} {
			for _, ends := range [][2]int64{{1, 0}, {0, -1}, {5, -5}, {1000 * million, 1000*million - 1}, {1000 * million, -1000 * million}} {
				n, code := impl.CountPlaces(f, ends[0], ends[1], b)
				wantNumber(t, "CountPlaces", n, code, 0, impl.ErrRange)
			}
		}
	}
}

// TestListsOfValuesAreNew: no two lists share memory, and a list that the caller changes is not the
// one of the next call.
func TestListsOfValuesAreNew(t *testing.T) {
	cubes := impl.Form{1, 0, 0, 1}
	for range 2 {
		places, code := impl.PlacesOf(cubes, 1, 2)
		wantRows(t, "PlacesOf", places, code, [][]int64{{0, 1}, {1, 0}}, impl.ErrNone)
		spoilLists(t, places)
		zeros, code := impl.ZerosInBox(cubes, 2)
		wantRows(t, "ZerosInBox", zeros, code, [][]int64{{-1, 1}, {1, -1}}, impl.ErrNone)
		spoilLists(t, zeros)
		wantLeast(t, cubes, 1, 1, [][]int64{{-1, 0}, {0, -1}, {0, 1}, {1, 0}}, impl.ErrNone)
		_, least, _ := impl.LeastValue(cubes, 1)
		spoilLists(t, least)
		wantNearest(t, cubes, 3, 1, []int64{1, 1}, 2, impl.ErrNone)
		nearest, _, _ := impl.NearestPlace(cubes, 3, 1)
		modulo, code := impl.ValuesModulo(cubes, 9)
		wantList(t, "ValuesModulo", modulo, code, []int64{0, 1, 2, 7, 8}, impl.ErrNone)
		common, code := impl.CommonValues(cubes, cubes, 1)
		wantList(t, "CommonValues", common, code, []int64{-2, -1, 1, 2}, impl.ErrNone)
		inBox, code := impl.ValuesInBox(cubes, 1)
		wantList(t, "ValuesInBox", inBox, code, []int64{-2, -1, 0, 1, 2}, impl.ErrNone)
		spoilLists(t, [][]int64{nearest, modulo, common, inBox})
	}
}

// TestNothingGoesOn: no function leaves a goroutine behind, also where it finds nothing, or refuses.
func TestNothingGoesOn(t *testing.T) {
	before := runtime.NumGoroutine()
	for _, f := range []impl.Form{{}, {1, 0, -1, 1}, {2, 0, 0, 2}, {1001, 0, 0, 0}} {
		for _, b := range []int64{0, 1, 10, 40, 41} {
			impl.PlacesOf(f, 2, b)
			impl.CountPlaces(f, -9, 9, b)
			impl.LeastValue(f, b)
			impl.ValuesModulo(f, b)
			impl.ObstructionOf(f, b)
			impl.CountModulo(f, 1, b)
			impl.CommonValues(f, impl.Form{1, 0, 0, 1}, b)
			impl.ValuesInBox(f, b)
			impl.NearestPlace(f, 2, b)
			impl.ZerosInBox(f, b)
		}
	}
	// A goroutine that has closed its channel may need a moment to end.
	for range 1000 {
		if runtime.NumGoroutine() <= before {
			return
		}
		time.Sleep(time.Millisecond)
	}
	t.Errorf("%d goroutines, before %d", runtime.NumGoroutine(), before)
}
