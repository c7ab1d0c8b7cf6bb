package tests

import (
	"cmp"
	"math"
	"runtime"
	"slices"
	"testing"
	"time"

	"loop.example/g01342/impl"
)

// beyondHeights are refused as the n of a table.
var beyondHeights = []int64{math.MinInt64, -3, -2, -1, 0, 4, 5, 10, 100, math.MaxInt64}

// notIrreducible have roots, at 1, 0 and 0, 1 too, and some twice or three times, or are 0.
var notIrreducible = []impl.Form{
	{}, {1, 0, 0, 0}, {0, 0, 0, 1}, {0, 1, 0, 0}, {0, 1, 1, 0}, {0, 1, 1, 1}, {1, 1, 1, 0}, {1, 0, 0, 1},
	{1, 0, 0, -1}, {1, 3, 3, 1}, {1, 2, 1, 0}, {6, -11, 6, -1}, {2, 3, 0, -1}, {27, 0, 0, -8}, {30, 30, 30, 30}, {8, 12, 6, 1},
}

// tableOfOne is the table of 1, and tableOfTwo that of 2.
var (
	tableOfOne = []impl.Form{{-1, -1, -2, -1}, {-1, 0, -1, -1}, {-1, -2, -2, -2}}
	tableOfTwo = []impl.Form{
		{-1, -1, -2, -1}, {-1, 0, -1, -1}, {-1, -2, -2, -2}, {-1, -2, 1, 1}, {-1, 0, -2, -1}, {-1, -1, -3, -1},
		{-1, -1, -1, -2}, {-1, -2, -3, -3}, {-2, -2, -3, -1}, {-1, -3, -3, -3}, {-1, -1, 0, -2}, {-1, -2, -2, -3},
		{-1, 0, -2, -2}, {-1, -1, 3, 1}, {-2, -3, -4, -2}, {-2, 0, -2, -1}, {-1, -2, -3, -4}, {-1, -1, -1, -3},
		{-1, -1, -4, -2}, {-2, -1, -2, 1}, {-2, -4, -4, -3}, {-2, -1, -2, -2}, {-2, -2, -4, -2}, {-3, -4, -5, -2},
		{-2, 0, -1, -2}, {-2, 0, -2, -2}, {-2, -5, -5, -4}, {-3, -3, -4, -2}, {-2, -5, -6, -5}, {-2, -4, -4, -4},
	}
)

// discriminantsOfThree are those of the table of 3. Two forms have -1356, all others are alone.
var discriminantsOfThree = []int64{
	-23, -31, -44, 49, -59, -76, 81, -83, -87, -104, -107, -108, -116, -135, -139, -140, 148, -152, -172, -175, -176,
	-200, -204, -211, -212, -216, 229, -231, -236, -239, -243, -244, -247, -255, 257, -268, -300, -304, -307, 316, 321,
	-324, -327, -332, -339, -351, -356, -364, -367, -368, -379, -411, -419, -424, -431, -432, -439, -440, -459, -472,
	473, -492, -496, -503, -516, -519, -543, -567, 621, -628, -648, -676, -684, -704, -716, -756, 756, -759, -823, -843,
	-856, -864, -867, -876, -883, -908, -964, -971, -972, -980, -984, -999, -1036, -1068, -1075, -1083, -1096, -1132,
	-1188, -1236, -1272, -1296, -1324, -1356, -1420, -1464, -1491, -1599, -1603, -1704, -1751, -1755, -1844, -1863,
	-1967, -1971, -2028, -2091, -2175, -2199, -2283, -2348, -2352, -2423, -2511, -2591, -2819, -2895, -2976, -3351, -3564,
}

// isIrreducibleByHand looks for rational roots at all places that the numbers of f allow.
func isIrreducibleByHand(f impl.Form) bool {
	limit := max(slices.Max(f[:]), -slices.Min(f[:]))
	return f != (impl.Form{}) && len(rationalRootsByHand(f, limit)) == 0
}

// normalByHand is the least of the reduced forms that these unit matrices lead to.
func normalByHand(f impl.Form, units []impl.Matrix) impl.Form {
	var reduced []impl.Form
	for _, m := range units {
		if g, code := impl.ChangeForm(f, m); code == impl.ErrNone && reducedByRule(g) {
			reduced = append(reduced, g)
		}
	}
	return slices.MinFunc(reduced, compareForms)
}

func compareByHand(f, g impl.Form) int {
	d, e := discriminantByHand(f), discriminantByHand(g)
	if max(d, -d) != max(e, -e) {
		return cmp.Compare(max(d, -d), max(e, -e))
	}
	if d != e {
		return cmp.Compare(d, e)
	}
	return compareForms(f, g)
}

// inOrderByHand puts forms in the order of tables, each of them once.
func inOrderByHand(forms []impl.Form) []impl.Form {
	slices.SortFunc(forms, compareByHand)
	return slices.Compact(forms)
}

// tableByHand looks at all forms of the height, with matrices that lead from each of them to all its
// reduced forms.
func tableByHand(n int64) []impl.Form {
	units := unitsWithin(n + 1)
	var forms []impl.Form
	for _, f := range smallForms(n) {
		if isIrreducibleByHand(f) {
			forms = append(forms, normalByHand(f, units))
		}
	}
	return inOrderByHand(forms)
}

// fieldByHand goes all steps from f to its maximal form.
func fieldByHand(t *testing.T, f impl.Form) impl.Form {
	t.Helper()
	last, _, _ := maximalByHand(f)
	normal, code := impl.NormalForm(last)
	if code != impl.ErrNone {
		t.Fatalf("NormalForm(%v) is %v, %d", last, normal, code)
	}
	return normal
}

func isSquareByHand(n int64) bool {
	for k := int64(0); k*k <= n; k++ {
		if k*k == n {
			return true
		}
	}
	return false
}

// tableTold is the table of n as the program tells it.
func tableTold(t *testing.T, n int64) []impl.Form {
	t.Helper()
	table, code := impl.TableOf(n)
	if code != impl.ErrNone || len(table) == 0 {
		t.Fatalf("TableOf(%d) is %v, %d", n, table, code)
	}
	return table
}

func wantRings(t *testing.T, n int64, f impl.Form, want []impl.Form, wantCode int64) {
	t.Helper()
	rings, code := impl.RingsOf(n, f)
	wantForms(t, "RingsOf", rings, code, want, wantCode)
}

func wantHeight(t *testing.T, f impl.Form, want, wantCode int64) {
	t.Helper()
	height, code := impl.HeightOf(f)
	if height != want || code != wantCode {
		t.Errorf("HeightOf(%v) = %d, %d, want %d, %d", f, height, code, want, wantCode)
	}
}

func wantFirst(t *testing.T, n, d int64, want impl.Form, wantCode int64) {
	t.Helper()
	first, code := impl.FirstFrom(n, d)
	if first != want || code != wantCode {
		t.Errorf("FirstFrom(%d, %d) = %v, %d, want %v, %d", n, d, first, code, want, wantCode)
	}
}

func TestMaxHeight(t *testing.T) {
	if impl.MaxHeight != 3 {
		t.Errorf("MaxHeight is %d", impl.MaxHeight)
	}
}

func TestTableOf(t *testing.T) {
	table, code := impl.TableOf(1)
	wantForms(t, "TableOf 1", table, code, tableOfOne, impl.ErrNone)
	table, code = impl.TableOf(2)
	wantForms(t, "TableOf 2", table, code, tableOfTwo, impl.ErrNone)
	table, code = impl.TableOf(3)
	if len(table) != 132 || code != impl.ErrNone {
		t.Errorf("TableOf(3) has %d forms, %d", len(table), code)
	}
}

func TestTablesByHand(t *testing.T) {
	for n := int64(1); n <= 3; n++ {
		table, code := impl.TableOf(n)
		wantForms(t, "TableOf", table, code, tableByHand(n), impl.ErrNone)
	}
}

// TestTablesHaveNormalIrreducibleForms is the first part of the promise 8, with the order, and the rest
// of the guarantee for discriminants and greater tables.
func TestTablesHaveNormalIrreducibleForms(t *testing.T) {
	var lesser []impl.Form
	for n := int64(1); n <= 3; n++ {
		table := tableTold(t, n)
		if !isStrictlyAscending(table, compareByHand) {
			t.Errorf("TableOf(%d) is out of order: %v", n, table)
		}
		for _, f := range table {
			normal, code := impl.NormalForm(f)
			wantForm(t, "NormalForm of a form of a table", normal, code, f, impl.ErrNone)
			is, code := impl.IsReduced(f)
			wantBool(t, "IsReduced", is, code, true, impl.ErrNone)
			is, code = impl.IsIrreducible(f)
			wantBool(t, "IsIrreducible", is, code, isIrreducibleByHand(f), impl.ErrNone)
			if !is {
				t.Errorf("TableOf(%d) has %v", n, f)
			}
			if rest := restByHand(discriminantByHand(f), 4); rest > 1 {
				t.Errorf("the discriminant of %v has the rest %d", f, rest)
			}
		}
		for _, f := range lesser {
			if !slices.Contains(table, f) {
				t.Errorf("TableOf(%d) lacks %v of the table before", n, f)
			}
		}
		lesser = table
	}
}

// TestTablesHaveAllForms: the normal forms of irreducible forms are in the tables of all n that are not
// less than their numbers, and those of others are not.
func TestTablesHaveAllForms(t *testing.T) {
	for n := int64(1); n <= 3; n++ {
		table := tableTold(t, n)
		met := map[impl.Form]bool{}
		for _, f := range smallForms(n) {
			normal, code := impl.NormalForm(f)
			is, _ := impl.IsIrreducible(f)
			if code != impl.ErrNone || slices.Contains(table, normal) != is {
				t.Errorf("NormalForm(%v) is %v, %d, and in the table of %d: %v", f, normal, code, n, !is)
			}
			met[normal] = met[normal] || is
		}
		for _, f := range table {
			if !met[f] {
				t.Errorf("TableOf(%d) has %v, to which no form leads", n, f)
			}
		}
	}
}

func TestCountTable(t *testing.T) {
	want := [][]int64{{3, 0, 3, 0, 3}, {30, 2, 28, 1, 26}, {132, 10, 122, 2, 113}}
	for i, w := range want {
		n := int64(i + 1)
		counts, code := impl.CountTable(n)
		wantList(t, "CountTable", counts, code, w, impl.ErrNone)
		byHand := make([]int64, 5)
		for _, f := range tableTold(t, n) {
			d := discriminantByHand(f)
			_, index, _ := maximalByHand(f)
			is, code := impl.IsMaximal(f)
			wantBool(t, "IsMaximal", is, code, index == 1, impl.ErrNone)
			for k, holds := range []bool{true, d > 0, d < 0, isSquareByHand(d), is} {
				if holds {
					byHand[k]++
				}
			}
		}
		wantList(t, "CountTable by hand", counts, code, byHand, impl.ErrNone)
	}
}

func TestDiscriminantsIn(t *testing.T) {
	list, code := impl.DiscriminantsIn(1)
	wantList(t, "DiscriminantsIn 1", list, code, []int64{-23, -31, -44}, impl.ErrNone)
	list, code = impl.DiscriminantsIn(3)
	wantList(t, "DiscriminantsIn 3", list, code, discriminantsOfThree, impl.ErrNone)
	for n := int64(1); n <= 3; n++ {
		var want []int64
		for _, f := range tableTold(t, n) {
			if d := discriminantByHand(f); !slices.Contains(want, d) {
				want = append(want, d)
			}
		}
		list, code := impl.DiscriminantsIn(n)
		wantList(t, "DiscriminantsIn", list, code, want, impl.ErrNone)
	}
}

func TestFormsWith(t *testing.T) {
	cases := []struct {
		n, d int64
		want []impl.Form
	}{
		{1, -23, []impl.Form{{-1, -1, -2, -1}}},
		{3, -23, []impl.Form{{-1, -1, -2, -1}}},
		{1, -44, []impl.Form{{-1, -2, -2, -2}}},
		{3, -1356, []impl.Form{{-2, -4, -4, -5}, {-2, -2, -6, -3}}},
		{2, -1356, nil},
		// Both signs, and the last one of the table.
		{3, -756, []impl.Form{{-2, -3, -6, -3}}},
		{3, 756, []impl.Form{{-1, -3, 3, 3}}},
		{3, -3564, []impl.Form{{-3, -6, -6, -6}}},
		{3, 3564, nil},
		// Squares.
		{1, 49, nil},
		{2, 49, []impl.Form{{-1, -2, 1, 1}}},
		{2, 81, nil},
		{3, 81, []impl.Form{{-1, -3, 0, 1}}},
		// The field of -283 is in no table, but a ring of it is.
		{3, -283, nil},
		{3, -1132, []impl.Form{{-4, -6, -7, -3}}},
		{1, 0, nil}, {3, 0, nil}, {3, 1, nil}, {3, -1, nil}, {3, 23, nil}, {3, -3565, nil}, {3, -4, nil},
		{3, math.MaxInt64, nil}, {3, math.MinInt64, nil}, {1, math.MinInt64 + 1, nil},
	}
	for _, c := range cases {
		forms, code := impl.FormsWith(c.n, c.d)
		wantForms(t, "FormsWith", forms, code, c.want, impl.ErrNone)
	}
}

// TestFormsWithAllDiscriminants: the lists of all discriminants together are the table, and numbers
// beside them have none.
func TestFormsWithAllDiscriminants(t *testing.T) {
	for n := int64(1); n <= 3; n++ {
		table := tableTold(t, n)
		discriminants, _ := impl.DiscriminantsIn(n)
		var together []impl.Form
		for _, d := range discriminants {
			forms, code := impl.FormsWith(n, d)
			if len(forms) == 0 || code != impl.ErrNone {
				t.Errorf("FormsWith(%d, %d) = %v, %d", n, d, forms, code)
			}
			for _, f := range forms {
				disc, code := impl.DiscriminantOf(f)
				wantNumber(t, "DiscriminantOf", disc, code, d, impl.ErrNone)
			}
			together = append(together, forms...)
			for _, other := range []int64{d + 2, d - 2, -d} {
				if !slices.Contains(discriminants, other) {
					forms, code := impl.FormsWith(n, other)
					wantForms(t, "FormsWith another number", forms, code, nil, impl.ErrNone)
				}
			}
		}
		wantForms(t, "all lists together", together, 0, table, 0)
	}
}

func TestFieldsOf(t *testing.T) {
	fields, code := impl.FieldsOf(1)
	wantForms(t, "FieldsOf 1", fields, code, tableOfOne, impl.ErrNone)
	// Four forms of the table of 2 are not maximal.
	want := slices.DeleteFunc(slices.Clone(tableOfTwo), func(f impl.Form) bool {
		return slices.Contains([]impl.Form{{-2, -2, -4, -2}, {-2, 0, -2, -2}, {-2, -4, -4, -4}, {-2, -1, -2, 1}}, f)
	})
	fields, code = impl.FieldsOf(2)
	wantForms(t, "FieldsOf 2", fields, code, want, impl.ErrNone)
	fields, code = impl.FieldsOf(3)
	if len(fields) != 117 || code != impl.ErrNone {
		t.Fatalf("FieldsOf(3) has %d forms, %d", len(fields), code)
	}
	// These are in no table, only rings of them with greater discriminants are. They come in the order
	// of their own discriminants: -283 between -268 and -300, and not where -1132 is.
	table := tableTold(t, 3)
	var missing []impl.Form
	for _, f := range fields {
		if !slices.Contains(table, f) {
			missing = append(missing, f)
		}
	}
	wantForms(t, "fields that are in no table", missing, 0, []impl.Form{{-1, 0, -4, -1}, {-1, -1, -3, -4}, {-1, -2, -6, -6}, {-2, -1, -4, 1}}, 0)
	i := slices.Index(fields, impl.Form{-1, 0, -4, -1})
	if i < 1 || discriminantByHand(fields[i-1]) != -268 || discriminantByHand(fields[i+1]) != -300 {
		t.Errorf("-1, 0, -4, -1 is field %d", i)
	}
}

// TestFieldsAreMaximalForms is the second part of the promise 8, and the fields are those of all forms
// of the table.
func TestFieldsAreMaximalForms(t *testing.T) {
	for n := int64(1); n <= 3; n++ {
		fields, code := impl.FieldsOf(n)
		var want []impl.Form
		for _, f := range tableTold(t, n) {
			want = append(want, fieldByHand(t, f))
		}
		wantForms(t, "FieldsOf", fields, code, inOrderByHand(want), impl.ErrNone)
		if !isStrictlyAscending(fields, compareByHand) {
			t.Errorf("FieldsOf(%d) is out of order: %v", n, fields)
		}
		for _, f := range fields {
			maximal, code := impl.MaximalForm(f)
			wantForm(t, "MaximalForm of a field", maximal, code, f, impl.ErrNone)
			is, code := impl.IsMaximal(f)
			wantBool(t, "IsMaximal", is, code, true, impl.ErrNone)
			is, code = impl.IsIrreducible(f)
			wantBool(t, "IsIrreducible", is, code, true, impl.ErrNone)
			wantMaximalAtAll(t, f)
		}
	}
}

func TestRingsOf(t *testing.T) {
	first, last := impl.Form{-1, -1, -2, -1}, impl.Form{-1, -2, -2, -2}
	cases := []struct {
		n    int64
		f    impl.Form
		want []impl.Form
	}{
		// A maximal form, normal or not, and forms that are not maximal.
		{1, impl.Form{1, 0, -1, 1}, []impl.Form{first}},
		{1, first, []impl.Form{first}},
		{2, first, []impl.Form{first, {-2, -2, -4, -2}}},
		{3, first, []impl.Form{first, {-2, -2, -4, -2}, {-3, -3, -6, -3}}},
		{1, impl.Form{2, 0, -2, 2}, []impl.Form{first}},
		{1, impl.Form{30, 0, -30, 30}, []impl.Form{first}},
		{3, impl.Form{-30, 0, 30, -30}, []impl.Form{first, {-2, -2, -4, -2}, {-3, -3, -6, -3}}},
		{3, impl.Form{8, 0, -2, 1}, []impl.Form{first, {-2, -2, -4, -2}, {-3, -3, -6, -3}}},
		{1, last, []impl.Form{last}},
		{2, last, []impl.Form{last, {-2, -4, -4, -4}}},
		{3, last, []impl.Form{last, {-1, -2, -4, -4}, {-2, -4, -4, -4}, {-3, -6, -6, -6}}},
		{3, impl.Form{-2, 14, -30, 22}, []impl.Form{last, {-1, -2, -4, -4}, {-2, -4, -4, -4}, {-3, -6, -6, -6}}},
		{3, impl.Form{3, -15, 30, -21}, []impl.Form{first, {-2, -2, -4, -2}, {-3, -3, -6, -3}}},
		{2, impl.Form{23, -30, 13, -2}, []impl.Form{{-1, 0, -2, -1}, {-2, -1, -2, 1}}},
		// Third roots.
		{2, impl.Form{1, 0, 0, 16}, []impl.Form{{-1, -3, -3, -3}}},
		{3, impl.Form{1, 0, 0, 16}, []impl.Form{{-1, -3, -3, -3}, {-1, -3, -3, -5}}},
		{3, impl.Form{-30, 0, 0, 15}, []impl.Form{{-1, -3, -3, -3}, {-1, -3, -3, -5}}},
		{3, impl.Form{-30, 0, 0, -24}, []impl.Form{{-2, -2, -4, -1}}},
		// The field is in no table, but a ring of it is.
		{3, impl.Form{-1, 0, -4, -1}, []impl.Form{{-4, -6, -7, -3}}},
		{3, impl.Form{1, 0, 4, 1}, []impl.Form{{-4, -6, -7, -3}}},
		{2, impl.Form{-1, 0, -4, -1}, nil},
		// The table has no ring of the field.
		{1, impl.Form{1, 1, -2, -1}, nil},
		{2, impl.Form{1, 1, -2, -1}, []impl.Form{{-1, -2, 1, 1}}},
		{2, impl.Form{1, 0, -3, -1}, nil},
		{3, impl.Form{1, 0, -3, -1}, []impl.Form{{-1, -3, 0, 1}}},
		{1, impl.Form{1, 0, 0, 2}, nil},
		{3, impl.Form{-30, 0, 0, -29}, nil},
		{3, impl.Form{30, 0, 0, 28}, nil},
		{3, impl.Form{30, -29, 30, 1}, nil},
	}
	for _, c := range cases {
		wantRings(t, c.n, c.f, c.want, impl.ErrNone)
	}
}

// TestRingsOfFields: the rings of a field are the forms of the table with its maximal form, and these
// lists together are the table.
func TestRingsOfFields(t *testing.T) {
	for n := int64(1); n <= 3; n++ {
		table := tableTold(t, n)
		fieldOf := map[impl.Form]impl.Form{}
		for _, f := range table {
			fieldOf[f] = fieldByHand(t, f)
		}
		fields, _ := impl.FieldsOf(n)
		var together []impl.Form
		for _, field := range fields {
			want := slices.DeleteFunc(slices.Clone(table), func(f impl.Form) bool { return fieldOf[f] != field })
			wantRings(t, n, field, want, impl.ErrNone)
			together = append(together, want...)
			for _, f := range want[1:] {
				wantRings(t, n, f, want, impl.ErrNone)
				reversed, _ := impl.ReverseForm(f)
				wantRings(t, n, reversed, want, impl.ErrNone)
				wantRings(t, n, timesForm(3, f), want, impl.ErrNone)
			}
		}
		wantForms(t, "all rings together", inOrderByHand(together), 0, table, 0)
	}
}

// TestRingsOfOtherForms has forms that are in no table, of which few have rings there.
func TestRingsOfOtherForms(t *testing.T) {
	table := tableTold(t, 3)
	fieldOf := map[impl.Form]impl.Form{}
	for _, f := range table {
		fieldOf[f] = fieldByHand(t, f)
	}
	var with, without int
	for i, f := range formsToOrder() {
		if i%9 > 0 || !isIrreducibleByHand(f) {
			continue
		}
		field, code := impl.MaximalForm(f)
		if code != impl.ErrNone {
			t.Fatalf("MaximalForm(%v) is %v, %d", f, field, code)
		}
		want := slices.DeleteFunc(slices.Clone(table), func(g impl.Form) bool { return fieldOf[g] != field })
		wantRings(t, 3, f, want, impl.ErrNone)
		if len(want) > 0 {
			with++
		} else {
			without++
		}
	}
	if with < 50 || without < 20 {
		t.Errorf("%d forms have rings in the table, %d have none", with, without)
	}
}

func TestHeightOf(t *testing.T) {
	cases := []struct {
		f    impl.Form
		want int64
	}{
		{impl.Form{1, 3, 2, 1}, 1},
		{impl.Form{1, 0, -1, 1}, 1},
		{impl.Form{-1, -1, -2, -1}, 1},
		{impl.Form{-1, 0, -1, -1}, 1},
		{impl.Form{1, 1, 1, -1}, 1},
		{impl.Form{2, 0, -2, 2}, 2},
		{impl.Form{1, 1, -2, -1}, 2},
		// The numbers of normal forms may be greater than the height.
		{impl.Form{1, 0, 0, 2}, 2},
		{impl.Form{-1, -3, -3, -3}, 2},
		{impl.Form{-2, -5, -6, -5}, 2},
		{impl.Form{-2, -4, -4, -4}, 2},
		{impl.Form{-2, -3, -4, -2}, 2},
		{impl.Form{3, 0, -3, 3}, 3},
		{impl.Form{1, 0, -3, -1}, 3},
		{impl.Form{1, 0, 0, 4}, 3},
		{impl.Form{-4, -6, -7, -3}, 3},
		{impl.Form{-3, -6, -6, -6}, 3},
		// Numbers at the limit of chapter 2.
		{impl.Form{-94, -100, -35, -4}, 2},
		{impl.Form{4, -35, 100, -94}, 2},
		{impl.Form{45, 100, 75, 19}, 3},
		{impl.Form{19, -75, 100, -45}, 3},
		{impl.Form{1, 12, 47, 61}, 1},
	}
	for _, c := range cases {
		wantHeight(t, c.f, c.want, impl.ErrNone)
	}
	for _, f := range []impl.Form{
		{-1, 0, -4, -1}, {1, 0, 4, 1}, {4, 0, -4, 4}, {100, 0, -100, 100}, {1, 0, 0, 7}, {100, 0, 0, -99}, {100, 99, 98, 97},
		{-1, -2, -6, -6},
	} {
		wantHeight(t, f, 0, impl.ErrNotFound)
	}
	// Normal forms near to MaxNumber, and beyond it: the latter are in no table either.
	wantHeight(t, impl.Form{86, 88, -97, -100}, 0, impl.ErrNotFound)
	for _, f := range []impl.Form{{89, 92, -96, -100}, {92, 100, -91, -100}, {-100, -91, 100, 92}} {
		normal, code := impl.NormalForm(f)
		wantForm(t, "NormalForm", normal, code, impl.Form{}, impl.ErrLimit)
		wantHeight(t, f, 0, impl.ErrNotFound)
	}
}

// TestHeightsByHand: the height of each form of the tables is the first table that has it, and forms
// that are equivalent have the same height.
func TestHeightsByHand(t *testing.T) {
	heights := map[impl.Form]int64{}
	for n := int64(3); n >= 1; n-- {
		for _, f := range tableTold(t, n) {
			heights[f] = n
		}
	}
	var counts [4]int
	for f, want := range heights {
		wantHeight(t, f, want, impl.ErrNone)
		for _, m := range []impl.Matrix{{0, 1, 1, 0}, {3, 2, 1, 1}} {
			if g, code := impl.ChangeForm(f, m); code == impl.ErrNone && slices.Max(g[:]) <= 100 && slices.Min(g[:]) >= -100 {
				wantHeight(t, g, want, impl.ErrNone)
				counts[want]++
			}
		}
	}
	if slices.Min(counts[1:]) < 4 {
		t.Errorf("forms changed, by heights: %v", counts)
	}
	notFound := 0
	for i, f := range scatteredForms(300) {
		if i%4 > 0 || !isIrreducibleByHand(f) {
			continue
		}
		normal, _ := impl.NormalForm(f)
		if heights[normal] == 0 {
			wantHeight(t, f, 0, impl.ErrNotFound)
			notFound++
		}
	}
	if notFound < 20 {
		t.Errorf("only %d forms are in no table", notFound)
	}
}

func TestFirstFrom(t *testing.T) {
	cases := []struct {
		n, d int64
		want impl.Form
	}{
		{1, 0, impl.Form{-1, -1, -2, -1}},
		{1, 1, impl.Form{-1, -1, -2, -1}},
		{1, 23, impl.Form{-1, -1, -2, -1}},
		{1, 24, impl.Form{-1, 0, -1, -1}},
		{1, 44, impl.Form{-1, -2, -2, -2}},
		{2, 45, impl.Form{-1, -2, 1, 1}},
		{2, 49, impl.Form{-1, -2, 1, 1}},
		{2, 50, impl.Form{-1, 0, -2, -1}},
		{2, 704, impl.Form{-2, -4, -4, -4}},
		{3, 0, impl.Form{-1, -1, -2, -1}},
		{3, 60, impl.Form{-1, -1, -3, -1}},
		// The negative discriminant comes first, and the lexicographically least form.
		{3, 756, impl.Form{-2, -3, -6, -3}},
		{3, 717, impl.Form{-2, -3, -6, -3}},
		{3, 1325, impl.Form{-2, -4, -4, -5}},
		{3, 3352, impl.Form{-3, -6, -6, -6}},
		{3, 3564, impl.Form{-3, -6, -6, -6}},
	}
	for _, c := range cases {
		wantFirst(t, c.n, c.d, c.want, impl.ErrNone)
	}
	for n, d := range map[int64]int64{1: 45, 2: 705, 3: 3565} {
		wantFirst(t, n, d, impl.Form{}, impl.ErrNotFound)
		wantFirst(t, n, 5000, impl.Form{}, impl.ErrNotFound)
		wantFirst(t, n, math.MaxInt64, impl.Form{}, impl.ErrNotFound)
	}
}

func TestFirstFromByHand(t *testing.T) {
	for n := int64(1); n <= 3; n++ {
		table := tableTold(t, n)
		sizeOf := func(f impl.Form) int64 { return max(discriminantByHand(f), -discriminantByHand(f)) }
		for _, f := range table {
			for _, d := range []int64{sizeOf(f), sizeOf(f) + 1} {
				far := slices.DeleteFunc(slices.Clone(table), func(g impl.Form) bool { return sizeOf(g) < d })
				if len(far) == 0 {
					wantFirst(t, n, d, impl.Form{}, impl.ErrNotFound)
				} else {
					wantFirst(t, n, d, slices.MinFunc(far, compareByHand), impl.ErrNone)
				}
			}
		}
	}
}

// TestTablesBeyond: n that have no table, for all functions that take one, also with numbers and forms
// for which there would be another error.
func TestTablesBeyond(t *testing.T) {
	for _, n := range beyondHeights {
		table, code := impl.TableOf(n)
		wantForms(t, "TableOf", table, code, nil, impl.ErrRange)
		counts, code := impl.CountTable(n)
		wantList(t, "CountTable", counts, code, nil, impl.ErrRange)
		list, code := impl.DiscriminantsIn(n)
		wantList(t, "DiscriminantsIn", list, code, nil, impl.ErrRange)
		fields, code := impl.FieldsOf(n)
		wantForms(t, "FieldsOf", fields, code, nil, impl.ErrRange)
		for _, d := range []int64{math.MinInt64, -23, -1, 0, 1, 23, 5000, math.MaxInt64} {
			forms, code := impl.FormsWith(n, d)
			wantForms(t, "FormsWith", forms, code, nil, impl.ErrRange)
			wantFirst(t, n, d, impl.Form{}, impl.ErrRange)
		}
		wantRings(t, n, impl.Form{1, 0, -1, 1}, nil, impl.ErrRange)
		wantRings(t, n, impl.Form{31, 0, 0, 1}, nil, impl.ErrRange)
		for _, f := range notIrreducible {
			wantRings(t, n, f, nil, impl.ErrRange)
		}
	}
	for n := int64(1); n <= 3; n++ {
		for _, d := range []int64{-1, -2, -23, -3565, math.MinInt64, math.MinInt64 + 1} {
			wantFirst(t, n, d, impl.Form{}, impl.ErrRange)
		}
	}
}

// TestInvalidInTables: what is no form comes first, whatever n is.
func TestInvalidInTables(t *testing.T) {
	for i := range 4 {
		for _, far := range outside(1000) {
			for _, bad := range []impl.Form{{}, {1, 0, -1, 1}, {31, 101, 500, 1000}} {
				bad[i] = far
				for _, n := range append(slices.Clone(beyondHeights), 1, 2, 3) {
					wantRings(t, n, bad, nil, impl.ErrInvalid)
				}
				wantHeight(t, bad, 0, impl.ErrInvalid)
			}
		}
	}
}

// TestFormsBeyondInTables: numbers beyond MaxRaised, or MaxReduced, come before forms that are not
// irreducible, and the limits themselves are taken.
func TestFormsBeyondInTables(t *testing.T) {
	for i := range 4 {
		for _, base := range []impl.Form{{}, {1, 0, -1, 1}, {1, 1, 1, 1}} {
			for _, far := range []int64{31, -31, 32, 100, -100, 101, 1000, -1000} {
				f := base
				f[i] = far
				for n := int64(1); n <= 3; n++ {
					wantRings(t, n, f, nil, impl.ErrRange)
				}
			}
			for _, far := range []int64{101, -101, 102, 500, 1000, -1000} {
				f := base
				f[i] = far
				wantHeight(t, f, 0, impl.ErrRange)
			}
		}
		for _, limit := range []int64{30, -30} {
			f := impl.Form{1, 3, 0, 7}
			f[i] = limit
			if _, code := impl.RingsOf(1, f); code != impl.ErrNone {
				t.Errorf("RingsOf(1, %v): code %d", f, code)
			}
		}
		for _, limit := range []int64{31, 100, -100} {
			f := impl.Form{1, 3, 0, 7}
			f[i] = limit
			wantHeight(t, f, 0, impl.ErrNotFound)
		}
	}
	wantHeight(t, impl.Form{101, 65, 14, 1}, 0, impl.ErrRange)
	wantHeight(t, impl.Form{-101, 85, -23, 2}, 0, impl.ErrRange)
	wantRings(t, 3, impl.Form{31, 0, -31, 31}, nil, impl.ErrRange)
	wantRings(t, 3, impl.Form{-26, -31, -10, -1}, nil, impl.ErrRange)
}

func TestFormsThatAreNotIrreducible(t *testing.T) {
	for _, f := range notIrreducible {
		for n := int64(1); n <= 3; n++ {
			wantRings(t, n, f, nil, impl.ErrState)
		}
		wantHeight(t, f, 0, impl.ErrState)
	}
	for _, f := range []impl.Form{{100, 100, 100, 100}, {100, 0, 0, -100}, {0, 1, 0, 50}, {0, 2, 93, 80}, {55, 65, -77, -91}, {100, 0, 0, 0}} {
		wantHeight(t, f, 0, impl.ErrState)
	}
	for _, f := range []impl.Form{{30, 0, 0, 30}, {0, -30, -23, 29}, {30, -30, 30, -30}, {0, 0, 0, -30}} {
		wantRings(t, 1, f, nil, impl.ErrState)
	}
}

// TestListsOfTablesAreNew: lists that the caller changes, with their spare memory, are not those of the
// next call.
func TestListsOfTablesAreNew(t *testing.T) {
	spoil := func(forms []impl.Form) {
		forms = forms[:cap(forms)]
		for i := range forms {
			forms[i] = impl.Form{7, 7, 7, 7}
		}
	}
	pair := []impl.Form{{-2, -4, -4, -5}, {-2, -2, -6, -3}}
	rings := []impl.Form{{-1, -1, -2, -1}, {-2, -2, -4, -2}}
	for range 2 {
		table, code := impl.TableOf(2)
		wantForms(t, "TableOf", table, code, tableOfTwo, impl.ErrNone)
		with, withCode := impl.FormsWith(3, -1356)
		fields, fieldsCode := impl.FieldsOf(1)
		ringsOf, ringsCode := impl.RingsOf(2, impl.Form{1, 0, -1, 1})
		spoil(table)
		wantForms(t, "FormsWith", with, withCode, pair, impl.ErrNone)
		spoil(with)
		wantForms(t, "FieldsOf", fields, fieldsCode, tableOfOne, impl.ErrNone)
		spoil(fields)
		wantForms(t, "RingsOf", ringsOf, ringsCode, rings, impl.ErrNone)
		spoil(ringsOf)
		counts, code := impl.CountTable(1)
		wantList(t, "CountTable", counts, code, []int64{3, 0, 3, 0, 3}, impl.ErrNone)
		discriminants, code := impl.DiscriminantsIn(1)
		wantList(t, "DiscriminantsIn", discriminants, code, []int64{-23, -31, -44}, impl.ErrNone)
		spoilLists(t, [][]int64{counts, discriminants})
	}
}

// TestTablesAtTheSameTime: calls that run at the same time return what each of them returns alone, and
// leave no goroutine behind.
func TestTablesAtTheSameTime(t *testing.T) {
	before := runtime.NumGoroutine()
	want := tableTold(t, 3)
	tables := make(chan []impl.Form)
	for range 8 {
		go func() {
			table, _ := impl.TableOf(3)
			tables <- table
		}()
	}
	for range 8 {
		wantForms(t, "TableOf at the same time", <-tables, 0, want, 0)
	}
	for range 1000 {
		if runtime.NumGoroutine() <= before {
			return
		}
		time.Sleep(time.Millisecond)
	}
	t.Errorf("%d goroutines, before %d", runtime.NumGoroutine(), before)
}
