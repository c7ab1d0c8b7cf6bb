package impl

import (
	"strconv"
	"strings"
)

const (
	ErrNone = iota
	ErrInvalid
	ErrRange
	ErrLimit
	ErrNotFound
	ErrState
	ErrSyntax
)
const (
	MaxNumber = 1000
	MaxPlace  = 10000
)

// maxThrough bounds the values that FormThrough takes; the document gives it no name, and it only
// happens to equal MaxPlace.
const maxThrough = 10000

type Form [4]int64

type Matrix [4]int64

// IsForm reports whether f is a form.
func IsForm(f Form) bool { return allWithin(f[:], MaxNumber) }

// ValueAt returns f(x, y), x and y of absolute values of at most MaxPlace, and ErrNone.
func ValueAt(f Form, x int64, y int64) (int64, int64) {
	if code := checkFormAndPlace(f, x, y, MaxPlace); code != ErrNone {
		return 0, code
	}
	return formValue(f, x, y), ErrNone
}

// DiscriminantOf returns the discriminant, and ErrNone.
func DiscriminantOf(f Form) (int64, int64) {
	if !IsForm(f) {
		return 0, ErrInvalid
	}
	return formDiscriminant(f), ErrNone
}

// ContentOf returns the content, and ErrNone.
func ContentOf(f Form) (int64, int64) {
	if !IsForm(f) {
		return 0, ErrInvalid
	}
	return commonDivisorOf(f[:]), ErrNone
}

// PrimitivePart returns f with its numbers divided by the content, and ErrNone. Errors: ErrState if
// the content is 0.
func PrimitivePart(f Form) (Form, int64) {
	content, code := ContentOf(f)
	if code != ErrNone {
		return Form{}, code
	}
	if f == (Form{}) {
		return Form{}, ErrState
	}
	return dividedForm(f, content), ErrNone
}

// IsMatrix reports whether m is a matrix.
func IsMatrix(m Matrix) bool { return allWithin(m[:], MaxNumber) }

// DeterminantOf returns the determinant, and ErrNone.
func DeterminantOf(m Matrix) (int64, int64) {
	if !IsMatrix(m) {
		return 0, ErrInvalid
	}
	return m[0]*m[3] - m[1]*m[2], ErrNone
}

// MultiplyMatrices returns the product of m and n, and ErrNone.
func MultiplyMatrices(m Matrix, n Matrix) (Matrix, int64) {
	if !IsMatrix(m) || !IsMatrix(n) {
		return Matrix{}, ErrInvalid
	}
	product := matrixProduct(m, n)
	if !IsMatrix(product) {
		return Matrix{}, ErrLimit
	}
	return product, ErrNone
}

// InverseMatrix returns the matrix whose product with m is 1, 0, 0, 1, and ErrNone. Errors:
// ErrState if m is not a unit matrix.
func InverseMatrix(m Matrix) (Matrix, int64) {
	if !IsMatrix(m) {
		return Matrix{}, ErrInvalid
	}
	inverse, isUnit := invertedUnit(m)
	if !isUnit {
		return Matrix{}, ErrState
	}
	return inverse, ErrNone
}

// ChangeForm returns f changed by m, and ErrNone.
func ChangeForm(f Form, m Matrix) (Form, int64) {
	if !IsForm(f) || !IsMatrix(m) {
		return Form{}, ErrInvalid
	}
	return withinLimit(changedForm(f, m))
}

// AddForms returns the form with the numbers of f, and k times those of g, together, k of an
// absolute value of at most MaxNumber, and ErrNone.
func AddForms(f Form, g Form, k int64) (Form, int64) {
	if !IsForm(f) || !IsForm(g) {
		return Form{}, ErrInvalid
	}
	if !isWithin(k, MaxNumber) {
		return Form{}, ErrRange
	}
	return withinLimit(addMultiple(f, g, k))
}

// ReverseForm returns the reversed form, and ErrNone.
func ReverseForm(f Form) (Form, int64) {
	if !IsForm(f) {
		return Form{}, ErrInvalid
	}
	return Form{f[3], f[2], f[1], f[0]}, ErrNone
}

// SlopesAt returns both slopes of f at x, y, of absolute values of at most MaxPlace, and ErrNone.
// (x times the first one, and y times the second one, are 3 f(x, y) together.)
func SlopesAt(f Form, x int64, y int64) (int64, int64, int64) {
	if code := checkFormAndPlace(f, x, y, MaxPlace); code != ErrNone {
		return 0, 0, code
	}
	a, b, c, d := f[0], f[1], f[2], f[3]
	return 3*a*x*x + 2*b*x*y + c*y*y, b*x*x + 2*c*x*y + 3*d*y*y, ErrNone
}

// FormThrough returns the form that has four given values, with absolute values of at most 10000,
// at 1, 0 and 0, 1 and 1, 1 and 1, -1, in this order, and ErrNone. (ErrInvalid is not returned.)
// Errors: ErrRange also if there are not four; ErrState if no form with whole numbers has them.
func FormThrough(values []int64) (Form, int64) {
	if len(values) != 4 || !allWithin(values, maxThrough) {
		return Form{}, ErrRange
	}
	f, isWhole := formWithValues([4]int64(values))
	if !isWhole {
		return Form{}, ErrState
	}
	return withinLimit(f)
}

// FormText returns the text of f, and ErrNone.
func FormText(f Form) (string, int64) {
	if !IsForm(f) {
		return "", ErrInvalid
	}
	var text strings.Builder
	for i, n := range f {
		if i > 0 {
			text.WriteByte(',')
		}
		text.WriteString(strconv.FormatInt(n, 10))
	}
	return text.String(), ErrNone
}

// ParseForm returns the form with a text, and ErrNone. Errors: ErrSyntax if there is none. (No
// other errors are returned.)
func ParseForm(text string) (Form, int64) {
	// One part more than a form has numbers is enough to see that there are too many.
	parts := strings.SplitN(text, ",", len(Form{})+1)
	if len(parts) != len(Form{}) {
		return Form{}, ErrSyntax
	}
	var f Form
	for i, part := range parts {
		n, err := strconv.ParseInt(part, 10, 64)
		if err != nil {
			return Form{}, ErrSyntax
		}
		f[i] = n
	}
	// ParseInt also takes what no text of a form has (+1, -0, 01): such numbers do not come back.
	if back, code := FormText(f); code != ErrNone || back != text {
		return Form{}, ErrSyntax
	}
	return f, ErrNone
}

// isWithin compares with both bounds, as the least int64 has no absolute value.
func isWithin(n int64, limit int64) bool { return -limit <= n && n <= limit }

func allWithin(numbers []int64, limit int64) bool {
	for _, n := range numbers {
		if !isWithin(n, limit) {
			return false
		}
	}
	return true
}

// withinLimit passes on a form of a result, or refuses it as too great.
func withinLimit(f Form) (Form, int64) {
	if !IsForm(f) {
		return Form{}, ErrLimit
	}
	return f, ErrNone
}

func checkFormAndPlace(f Form, x int64, y int64, limit int64) int64 {
	if !IsForm(f) {
		return ErrInvalid
	}
	if !isWithin(x, limit) || !isWithin(y, limit) {
		return ErrRange
	}
	return ErrNone
}

// commonDivisor returns the greatest common divisor, of 0 and 0 it is 0.
func commonDivisor(m int64, n int64) int64 {
	for n != 0 {
		m, n = n, m%n
	}
	if m < 0 {
		return -m
	}
	return m
}

// commonDivisorOf returns the greatest common divisor of a list, 0 if all its numbers are 0.
func commonDivisorOf(numbers []int64) int64 {
	var divisor int64
	for _, n := range numbers {
		divisor = commonDivisor(divisor, n)
	}
	return divisor
}

func formValue(f Form, x int64, y int64) int64 {
	return f[0]*x*x*x + f[1]*x*x*y + f[2]*x*y*y + f[3]*y*y*y
}

// formDiscriminant returns the discriminant, whatever the size of the form.
func formDiscriminant(f Form) int64 {
	a, b, c, d := f[0], f[1], f[2], f[3]
	return b*b*c*c - 4*a*c*c*c - 4*b*b*b*d - 27*a*a*d*d + 18*a*b*c*d
}

func addMultiple(f Form, g Form, k int64) Form {
	for i := range f {
		f[i] += k * g[i]
	}
	return f
}

// dividedForm returns f divided by a divisor of its content.
func dividedForm(f Form, divisor int64) Form {
	for i := range f {
		f[i] /= divisor
	}
	return f
}

func matrixProduct(m Matrix, n Matrix) Matrix {
	return Matrix{
		m[0]*n[0] + m[1]*n[2], m[0]*n[1] + m[1]*n[3],
		m[2]*n[0] + m[3]*n[2], m[2]*n[1] + m[3]*n[3],
	}
}

// invertedUnit returns the inverse of a matrix, whatever its size, or false if it is no unit
// matrix.
func invertedUnit(m Matrix) (Matrix, bool) {
	crossed := Matrix{m[3], -m[1], -m[2], m[0]}
	// The product of m and crossed is the determinant times 1, 0, 0, 1, so these two products tell
	// the unit matrices, and the sign that turns crossed into the inverse.
	signs := map[Matrix]int64{
		{1, 0, 0, 1}:   1,
		{-1, 0, 0, -1}: -1,
	}
	sign, isUnit := signs[matrixProduct(m, crossed)]
	if !isUnit {
		return Matrix{}, false
	}
	for i := range crossed {
		crossed[i] *= sign
	}
	return crossed, true
}

// changedForm returns f changed by m, whatever its size.
func changedForm(f Form, m Matrix) Form {
	var values []int64
	for x, y := range basePlaces {
		values = append(values, formValue(f, m[0]*x+m[1]*y, m[2]*x+m[3]*y))
	}
	// The changed form has whole numbers, so these values always lead to one.
	changed, _ := formWithValues([4]int64(values))
	return changed
}

// basePlaces are four places whose values tell a form.
func basePlaces(yield func(x int64, y int64) bool) {
	_ = yield(1, 0) && yield(0, 1) && yield(1, 1) && yield(1, -1)
}

// formWithValues returns the form with these values at the base places, whatever its size, or false
// if its numbers are not whole.
func formWithValues(values [4]int64) (Form, bool) {
	// Each of these forms has the value 2 at one base place and 0 at the three others, so that the
	// multiples together are twice the form. Their order does not matter to the sum.
	multiples := map[Form]int64{
		{2, 0, -2, 0}: values[0],
		{0, -2, 0, 2}: values[1],
		{0, 1, 1, 0}:  values[2],
		{0, -1, 1, 0}: values[3],
	}
	var f Form
	for part, k := range multiples {
		f = addMultiple(f, part, k)
	}
	for i, twice := range f {
		if twice%2 != 0 {
			return Form{}, false
		}
		f[i] = twice / 2
	}
	return f, true
}
