package tests

import (
	"fmt"
	"regexp"
	"slices"
	"strings"
	"testing"

	"loop.example/g01342/impl"
)

var newDesk = impl.Desk{Form: impl.Form{1, 0, -1, 1}, Elem: impl.Elem{0, 1, 0}, Quadratic: impl.Quadratic{2, 1, 3}}

// writtenByHand are the numbers that lines may have, by the document's rule.
var writtenByHand = regexp.MustCompile(`^(0|-?[1-9][0-9]{0,8})$`)

// shapes has for each command what its words are: a text or a number each.
var shapes = map[string]string{
	"form": "t", "change": "nnnn", "reverse": "", "normal": "", "raise": "nn", "lower": "nn", "divide": "n", "maximal": "",
	"elem": "nnn", "times": "nnn", "invert": "", "quadratic": "nnn", "compose": "nnn", "root": "",
	"show": "", "look": "", "see": "", "value": "nn", "disc": "", "reduced": "", "equal": "t", "turns": "", "hessian": "",
	"trace": "", "norm": "", "index": "", "polynomial": "", "kind": "n", "irreducible": "", "points": "n", "below": "n", "above": "",
	"height": "", "with": "nn", "group": "", "order": "", "roots": "n", "reset": "",
}

func commandNames() []string {
	var names []string
	for name := range shapes {
		names = append(names, name)
	}
	slices.Sort(names)
	return names
}

// coded is the result of a function of another chapter, with its code.
type coded struct {
	result any
	code   int64
}

func codedBy[T any](result T, code int64) coded { return coded{result, code} }

func countedBy[T any](list []T, code int64) coded { return coded{int64(len(list)), code} }

// changedByHand does what the list of the chapter says of the commands that change the desk. Results that are
// parts of desks are taken as new parts. It is nil for other commands.
func changedByHand(d impl.Desk, name, text string, n []int64) any {
	switch name {
	case "form":
		return codedBy(impl.ParseForm(text))
	case "change":
		return codedBy(impl.ChangeForm(d.Form, impl.Matrix{n[0], n[1], n[2], n[3]}))
	case "reverse":
		return codedBy(impl.ReverseForm(d.Form))
	case "normal":
		return codedBy(impl.NormalForm(d.Form))
	case "raise":
		return codedBy(impl.RaiseForm(d.Form, n[0], n[1]))
	case "lower":
		return codedBy(impl.LowerForm(d.Form, n[0], n[1]))
	case "divide":
		return codedBy(impl.DivideForm(d.Form, n[0]))
	case "maximal":
		return codedBy(impl.MaximalForm(d.Form))
	case "elem":
		return coded{impl.Elem{n[0], n[1], n[2]}, impl.ErrNone}
	case "times":
		return codedBy(impl.MultiplyElems(d.Form, d.Elem, impl.Elem{n[0], n[1], n[2]}))
	case "invert":
		return codedBy(impl.InverseElem(d.Form, d.Elem))
	case "quadratic":
		return coded{impl.Quadratic{n[0], n[1], n[2]}, impl.ErrNone}
	case "compose":
		return codedBy(impl.ComposeQuadratics(d.Quadratic, impl.Quadratic{n[0], n[1], n[2]}))
	case "root":
		return codedBy(impl.RootForm(d.Form))
	case "reset":
		return coded{newDesk, impl.ErrNone}
	}
	return nil
}

// toldByHand does what the list says of the commands that change nothing.
func toldByHand(d impl.Desk, name, text string, n []int64) coded {
	switch name {
	case "show":
		return coded{d.Form, impl.ErrNone}
	case "look":
		return coded{d.Elem, impl.ErrNone}
	case "see":
		return coded{d.Quadratic, impl.ErrNone}
	case "value":
		return codedBy(impl.ValueAt(d.Form, n[0], n[1]))
	case "disc":
		return codedBy(impl.DiscriminantOf(d.Form))
	case "reduced":
		return codedBy(impl.ReducedForms(d.Form))
	case "equal":
		other, code := impl.ParseForm(text)
		if code != impl.ErrNone {
			return coded{false, code}
		}
		return codedBy(impl.AreEquivalent(d.Form, other))
	case "turns":
		return countedBy(impl.AutomorphismsOf(d.Form))
	case "hessian":
		return codedBy(impl.HessianOf(d.Form))
	case "trace":
		return codedBy(impl.TraceOf(d.Form, d.Elem))
	case "norm":
		return codedBy(impl.NormOf(d.Form, d.Elem))
	case "index":
		return codedBy(impl.IndexOf(d.Form, d.Elem))
	case "polynomial":
		return codedBy(impl.PolynomialOf(d.Form, d.Elem))
	case "kind":
		return codedBy(impl.KindModulo(d.Form, n[0]))
	case "irreducible":
		return codedBy(impl.IsIrreducible(d.Form))
	case "points":
		return codedBy(impl.PointsToRaise(d.Form, n[0]))
	case "below":
		return codedBy(impl.FormsBelow(d.Form, n[0]))
	case "above":
		return codedBy(impl.IndexInMaximal(d.Form))
	case "height":
		return codedBy(impl.HeightOf(d.Form))
	case "with":
		return codedBy(impl.FormsWith(n[0], n[1]))
	case "group":
		return codedBy(impl.GroupOrder(d.Form))
	case "order":
		return codedBy(impl.OrderOfQuadratic(d.Quadratic))
	}
	return countedBy(impl.ThirdRoots(n[0]))
}

// writtenOut is the output of a result.
func writtenOut(result any) string {
	var text string
	switch r := result.(type) {
	case bool:
		return map[bool]string{false: "no", true: "yes"}[r]
	case impl.Desk:
		return "ok"
	case impl.Form:
		return fmt.Sprintf("%d,%d,%d,%d", r[0], r[1], r[2], r[3])
	case []impl.Form:
		for _, f := range r {
			text += ";" + writtenOut(f)
		}
		text = strings.TrimPrefix(text, ";")
	default:
		text = strings.Trim(fmt.Sprint(r), "[]")
	}
	if text == "" {
		return "none"
	}
	return text
}

// withPart is the desk with a part taken over, or false if it is not what the list asks for.
func withPart(d impl.Desk, part any) (impl.Desk, bool) {
	switch p := part.(type) {
	case impl.Form:
		d.Form = p
	case impl.Elem:
		d.Elem = p
		return d, isElemWithin(p, 10000)
	case impl.Quadratic:
		d.Quadratic = p
		return d, isDefiniteByHand(p)
	case impl.Desk:
		d = p
	}
	return d, true
}

// ranByHand is RunLine by the document, from the functions of the other chapters.
func ranByHand(d impl.Desk, line string) (impl.Desk, string) {
	words := strings.Split(line, " ")
	shape, isCommand := shapes[words[0]]
	if !isCommand || len(words) != 1+len(shape) {
		return d, "error"
	}
	var text string
	var numbers []int64
	for i, word := range words[1:] {
		if shape[i] == 't' {
			text = word
			continue
		}
		if !writtenByHand.MatchString(word) {
			return d, "error"
		}
		var n int64
		fmt.Sscan(word, &n)
		numbers = append(numbers, n)
	}
	part, isChange := changedByHand(d, words[0], text, numbers).(coded)
	if !isChange {
		told := toldByHand(d, words[0], text, numbers)
		if told.code != impl.ErrNone {
			return d, "error"
		}
		return d, writtenOut(told.result)
	}
	next, isRight := withPart(d, part.result)
	if part.code != impl.ErrNone || !isRight {
		return d, "error"
	}
	return next, writtenOut(part.result)
}

func wantLine(t *testing.T, d impl.Desk, line string, want impl.Desk, wantOutput string) {
	t.Helper()
	next, output := impl.RunLine(d, line)
	if next != want || output != wantOutput {
		t.Errorf("RunLine(%v, %q) = %v, %q, want %v, %q", d, line, next, output, want, wantOutput)
	}
}

// deskOf has the parts of the new desk where none is given.
func deskOf(t *testing.T, parts ...any) impl.Desk {
	t.Helper()
	d := newDesk
	for _, part := range parts {
		d, _ = withPart(d, part)
	}
	if !impl.IsDesk(d) {
		t.Fatalf("%v is no desk", d)
	}
	return d
}

func TestConstantsOfConsole(t *testing.T) {
	if impl.MaxConsole != 4000 || impl.MaxLines != 40 {
		t.Errorf("limits %d, %d", impl.MaxConsole, impl.MaxLines)
	}
}

func TestNewDesk(t *testing.T) {
	if d := impl.NewDesk(); d != newDesk || !impl.IsDesk(d) {
		t.Errorf("NewDesk() = %v", d)
	}
}

// brokenDesks have one part that is none, and the others as on a good desk.
func brokenDesks() []impl.Desk {
	var broken []impl.Desk
	for i := range 4 {
		for _, far := range outside(1000) {
			d := newDesk
			d.Form[i] = far
			broken = append(broken, d)
		}
	}
	for i := range 3 {
		for _, far := range outside(10000) {
			d := newDesk
			d.Elem[i] = far
			broken = append(broken, d)
		}
		for _, far := range append(outside(million), outside(trillion)...) {
			d := newDesk
			d.Quadratic[i] = far
			broken = append(broken, d)
		}
	}
	for _, q := range []impl.Quadratic{
		{}, {1, 2, 1}, {1, 0, -1}, {1, 3, 1}, {-2, 1, -3}, {-1, 0, -1}, {2, 0, 2}, {4, 2, 6}, {1, 0, 501}, {1, 1, 501}, {0, 1, 0}, {0, 0, 1}, {1, 0, 0},
		{1 << 31, 2, 1 << 31}, {1, 1 << 32, 1}, {1000001, 2000001, 1000001},
	} {
		d := newDesk
		d.Quadratic = q
		broken = append(broken, d)
	}
	return append(broken, impl.Desk{})
}

// TestIsDesk goes to the limits of each part, and beyond them in one part alone.
func TestIsDesk(t *testing.T) {
	for _, part := range []any{
		impl.Form{}, impl.Form{1000, 1000, 1000, 1000}, impl.Form{-1000, -1000, -1000, -1000}, impl.Form{1, 2, 1, 0}, impl.Form{2, 4, 0, -2},
		impl.Elem{}, impl.Elem{10000, 10000, 10000}, impl.Elem{-10000, -10000, -10000},
		impl.Quadratic{1, 0, 1}, impl.Quadratic{1, 1, 1}, impl.Quadratic{1, 0, 500}, impl.Quadratic{500, 0, 1}, impl.Quadratic{1, 1, 500},
		impl.Quadratic{3, -1, 2}, impl.Quadratic{492875, 1000000, 507228}, impl.Quadratic{5, 4472, 1000000}, impl.Quadratic{1000000, 4472, 5},
	} {
		deskOf(t, part)
	}
	for _, d := range brokenDesks() {
		if impl.IsDesk(d) {
			t.Errorf("IsDesk(%v)", d)
		}
	}
}

// TestNoDesk: on what is no desk no line leads to a desk or has an output, right ones and those with the output
// error, and reset, which would leave nothing of it.
func TestNoDesk(t *testing.T) {
	lines := []string{"", " ", "fly", "disc ", "reset", "form 1,0,0,2", "elem 0 0 0", "quadratic 1 0 1"}
	for name, shape := range shapes {
		if shape == "" {
			lines = append(lines, name)
		}
	}
	for _, d := range brokenDesks() {
		for _, line := range lines {
			wantLine(t, d, line, impl.Desk{}, "")
		}
	}
}

type commandCase struct {
	parts  []any // of the desk before the line
	line   string
	part   any // of the desk after it, nil if it is the same
	output string
}

func wantCommands(t *testing.T, cases []commandCase) {
	t.Helper()
	for _, c := range cases {
		d := deskOf(t, c.parts...)
		want, _ := withPart(d, c.part)
		wantLine(t, d, c.line, want, c.output)
	}
}

func formAlone(a, b, c, d int64) []any { return []any{impl.Form{a, b, c, d}} }

func elemAlone(u, v, w int64) []any { return []any{impl.Elem{u, v, w}} }

func quadraticAlone(p, q, r int64) []any { return []any{impl.Quadratic{p, q, r}} }

// TestCommandsForForms has the commands by which the form becomes another one.
func TestCommandsForForms(t *testing.T) {
	wantCommands(t, []commandCase{
		{nil, "form 1,0,0,4", impl.Form{1, 0, 0, 4}, "1,0,0,4"},
		{nil, "form -1000,1000,0,-1", impl.Form{-1000, 1000, 0, -1}, "-1000,1000,0,-1"},
		{nil, "form 0,0,0,0", impl.Form{}, "0,0,0,0"},
		{formAlone(0, 0, 0, 0), "form 1,2,3,4", impl.Form{1, 2, 3, 4}, "1,2,3,4"},
		{nil, "change 1 1 0 1", impl.Form{1, 3, 2, 1}, "1,3,2,1"},
		{nil, "change 1 0 1 1", impl.Form{1, 1, 2, 1}, "1,1,2,1"},
		{nil, "change -1 2 0 3", impl.Form{-1, 6, -3, 17}, "-1,6,-3,17"},
		{nil, "change 0 0 0 0", impl.Form{}, "0,0,0,0"},
		{formAlone(0, 0, 0, 1), "change 1000 1000 -10 0", impl.Form{-1000, 0, 0, 0}, "-1000,0,0,0"},
		{formAlone(1, 0, 0, 0), "change 0 10 -1000 1000", impl.Form{0, 0, 0, 1000}, "0,0,0,1000"},
		{nil, "reverse", impl.Form{1, -1, 0, 1}, "1,-1,0,1"},
		{formAlone(-1000, 2, 30, 400), "reverse", impl.Form{400, 30, 2, -1000}, "400,30,2,-1000"},
		{nil, "normal", impl.Form{-1, -1, -2, -1}, "-1,-1,-2,-1"},
		{formAlone(1, 1, 2, 1), "normal", impl.Form{-1, -1, -2, -1}, "-1,-1,-2,-1"},
		{formAlone(1, 0, 0, 4), "raise 2 0", impl.Form{1, 0, 0, -2}, "1,0,0,-2"},
		{formAlone(4, 2, 3, 5), "raise 2 2", impl.Form{1, 1, 3, 10}, "1,1,3,10"},
		{formAlone(1, 0, 0, 2), "lower 2 0", impl.Form{4, 0, 0, 1}, "4,0,0,1"},
		{formAlone(2, 1, 3, 5), "lower 2 2", impl.Form{-20, 6, -1, 1}, "-20,6,-1,1"},
		{formAlone(2, 4, 0, -2), "divide 2", impl.Form{1, 2, 0, -1}, "1,2,0,-1"},
		{formAlone(97, 0, -97, 970), "divide 97", impl.Form{1, 0, -1, 10}, "1,0,-1,10"},
		{formAlone(0, 0, 0, 0), "divide 3", impl.Form{}, "0,0,0,0"},
		{nil, "maximal", impl.Form{-1, -1, -2, -1}, "-1,-1,-2,-1"},
		{formAlone(1, 0, 0, 4), "maximal", impl.Form{-1, -3, -3, -3}, "-1,-3,-3,-3"},
	})
}

// TestCommandsForOtherParts has the commands by which the element or the quadratic form becomes another one, and
// that for the new desk.
func TestCommandsForOtherParts(t *testing.T) {
	wantCommands(t, []commandCase{
		{nil, "elem 2 1 0", impl.Elem{2, 1, 0}, "2 1 0"},
		{nil, "elem 0 0 0", impl.Elem{}, "0 0 0"},
		{nil, "elem -10000 10000 -7", impl.Elem{-10000, 10000, -7}, "-10000 10000 -7"},
		{nil, "times 0 1 0", impl.Elem{1, 0, -1}, "1 0 -1"},
		{nil, "times 0 0 1", impl.Elem{-1, 0, 0}, "-1 0 0"},
		{nil, "times 10000 0 0", impl.Elem{0, 10000, 0}, "0 10000 0"},
		{[]any{impl.Form{2, 1, 3, 5}, impl.Elem{1, 2, -1}}, "times 3 0 1", impl.Elem{-12, 1, 1}, "-12 1 1"},
		{nil, "invert", impl.Elem{0, 0, -1}, "0 0 -1"},
		{elemAlone(-1, 0, 0), "invert", impl.Elem{-1, 0, 0}, "-1 0 0"},
		{nil, "quadratic 1 1 6", impl.Quadratic{1, 1, 6}, "1 1 6"},
		{nil, "quadratic 492875 1000000 507228", impl.Quadratic{492875, 1000000, 507228}, "492875 1000000 507228"},
		{nil, "quadratic 3 -2 4", impl.Quadratic{3, -2, 4}, "3 -2 4"},
		{nil, "compose 2 1 3", impl.Quadratic{2, -1, 3}, "2 -1 3"},
		{nil, "compose 2 -1 3", impl.Quadratic{1, 1, 6}, "1 1 6"},
		{nil, "compose 3 -1 2", impl.Quadratic{2, -1, 3}, "2 -1 3"},
		{quadraticAlone(3, 1, 2), "compose 1 1 6", impl.Quadratic{2, -1, 3}, "2 -1 3"},
		{quadraticAlone(1, 0, 1), "compose 5 4 1", impl.Quadratic{1, 0, 1}, "1 0 1"},
		{formAlone(1, 3, 0, -1), "root", impl.Quadratic{1, 1, 1}, "1 1 1"},
		{formAlone(1, 3, -3, -2), "root", impl.Quadratic{2, 1, 3}, "2 1 3"},
		{nil, "reset", nil, "ok"},
		{[]any{impl.Form{}, impl.Elem{1, 2, 3}, impl.Quadratic{1, 0, 1}}, "reset", newDesk, "ok"},
	})
}

// TestCommandsForOutputs has the commands that change nothing.
func TestCommandsForOutputs(t *testing.T) {
	wantCommands(t, []commandCase{
		{nil, "show", nil, "1,0,-1,1"},
		{formAlone(-1000, 0, 1000, -9), "show", nil, "-1000,0,1000,-9"},
		{nil, "look", nil, "0 1 0"},
		{elemAlone(-10000, 0, 10000), "look", nil, "-10000 0 10000"},
		{nil, "see", nil, "2 1 3"},
		{quadraticAlone(3, -1, 2), "see", nil, "3 -1 2"},
		{nil, "value 2 1", nil, "7"},
		{nil, "value -2 1", nil, "-5"},
		{nil, "value 0 0", nil, "0"},
		{formAlone(1000, 1000, 1000, 1000), "value 10000 10000", nil, "4000000000000000"},
		{nil, "disc", nil, "-23"},
		{formAlone(1, 1, -2, -1), "disc", nil, "49"},
		{formAlone(1, 0, 0, 0), "disc", nil, "0"},
		{formAlone(1, 0, 0, 4), "reduced", nil, "-1,-3,-3,-5;-1,3,-3,5;1,-3,3,-5;1,3,3,5"},
		{nil, "equal -1,0,1,-1", nil, "yes"},
		{nil, "equal 1,1,2,1", nil, "yes"},
		{nil, "equal 1,0,0,2", nil, "no"},
		{nil, "turns", nil, "1"},
		{formAlone(0, 1, 1, 0), "turns", nil, "6"},
		{formAlone(1, 1, -2, -1), "turns", nil, "3"},
		{nil, "hessian", nil, "3 -9 1"},
		{formAlone(0, 0, 0, 0), "hessian", nil, "0 0 0"},
		{formAlone(1, 3, 0, -1), "hessian", nil, "9 9 9"},
		{nil, "trace", nil, "0"},
		{elemAlone(-10000, 0, 0), "trace", nil, "-30000"},
		{nil, "norm", nil, "1"},
		{elemAlone(0, 0, 2), "norm", nil, "-8"},
		{nil, "index", nil, "1"},
		{elemAlone(9, 2, 1), "index", nil, "7"},
		{elemAlone(9, 0, 0), "index", nil, "0"},
		{nil, "polynomial", nil, "1 0 -1 -1"},
		{elemAlone(2, 0, 0), "polynomial", nil, "1 -6 12 -8"},
	})
}

// TestCommandsForMoreOutputs has the commands of the later chapters that change nothing, and all kinds.
func TestCommandsForMoreOutputs(t *testing.T) {
	wantCommands(t, []commandCase{
		{nil, "kind 2", nil, "3"},
		{nil, "kind 5", nil, "2"},
		{nil, "kind 23", nil, "4"},
		{nil, "kind 59", nil, "1"},
		{formAlone(1, 0, 0, 2), "kind 2", nil, "5"},
		{formAlone(2, 0, -2, 2), "kind 2", nil, "0"},
		{nil, "irreducible", nil, "yes"},
		{formAlone(1, 0, 0, 1), "irreducible", nil, "no"},
		{formAlone(0, 0, 0, 0), "irreducible", nil, "no"},
		{formAlone(1, 0, 0, 4), "points 2", nil, "0"},
		{formAlone(0, 0, 0, 0), "points 3", nil, "0 1 2 3"},
		{nil, "points 2", nil, "none"},
		{formAlone(1, 0, 0, 2), "below 2", nil, "4,0,0,1"},
		{formAlone(0, 1, 1, 0), "below 2", nil, "0,2,1,0;0,2,3,1;0,2,-1,0"},
		{nil, "below 2", nil, "none"},
		{nil, "above", nil, "1"},
		{formAlone(1, 0, 0, 4), "above", nil, "2"},
		{formAlone(30, 0, -30, 30), "above", nil, "900"},
		{nil, "height", nil, "1"},
		{formAlone(1, 1, -2, -1), "height", nil, "2"},
		{nil, "with 1 -23", nil, "-1,-1,-2,-1"},
		{nil, "with 2 0", nil, "none"},
		{nil, "with 3 999999999", nil, "none"},
		{nil, "with 3 -999999999", nil, "none"},
		{nil, "group", nil, "6"},
		{formAlone(1, 1, -2, -1), "group", nil, "3"},
		{nil, "order", nil, "3"},
		{quadraticAlone(1, 1, 6), "order", nil, "1"},
		{quadraticAlone(3, 1, 2), "order", nil, "3"},
		{nil, "roots -23", nil, "3"},
		{nil, "roots -4", nil, "1"},
		{nil, "roots -972", nil, "9"},
		{nil, "roots -2000", nil, "1"},
	})
}

// desksToTry are desks on which each command has its output, and others on which some have none.
func desksToTry(t *testing.T) []impl.Desk {
	return []impl.Desk{
		newDesk,
		deskOf(t, impl.Form{1, 0, 0, 4}, impl.Elem{2, 1, 0}, impl.Quadratic{1, 0, 1}),
		deskOf(t, impl.Form{1, 3, 0, -1}, impl.Elem{-1, 0, 0}, impl.Quadratic{1, 1, 6}),
		deskOf(t, impl.Form{2, 4, 0, -2}, impl.Elem{3, -2, 5}, impl.Quadratic{3, -1, 2}),
		deskOf(t, impl.Form{}, impl.Elem{}, impl.Quadratic{1, 0, 500}),
		deskOf(t, impl.Form{1000, -1000, 999, 1000}, impl.Elem{10000, -10000, 10000}, impl.Quadratic{492875, 1000000, 507228}),
		deskOf(t, impl.Form{1, 3, -3, -2}, impl.Elem{100, 100, -100}, impl.Quadratic{17, 3, 29}),
	}
}

// wantErrorsOnAll asks for the output error, and the desk as it was, on all desks to try.
func wantErrorsOnAll(t *testing.T, lines ...string) {
	t.Helper()
	for _, d := range desksToTry(t) {
		for _, line := range lines {
			wantLine(t, d, line, d, "error")
		}
	}
}

// goodLine is a line with a command for which the number of the words, and all words, are right.
func goodLine(name string) string {
	if shapes[name] == "t" {
		return name + " 1,0,0,2"
	}
	return name + strings.Repeat(" 1", len(shapes[name]))
}

// TestWrongCommands: commands are told bytewise, and are at the beginning of the line.
func TestWrongCommands(t *testing.T) {
	wantErrorsOnAll(t,
		"", " ", "  ", "fly", "fly 1 2", "1", "-1", "1,0,0,2", "none", "ok", "error", "\n", "\t", "\r", "\x00", "\xff", "\u00a0",
		"F", "E", "Q", "help", "quit", "form=1,0,0,2", "form,1,0,0,2", "\u0434\u0438\u0441\u043a",
	)
	for _, name := range commandNames() {
		line := goodLine(name)
		words := line[len(name):]
		wantErrorsOnAll(t, " "+line, strings.ToUpper(name)+words, strings.ToUpper(name[:1])+line[1:], line[1:], name[:len(name)-1]+words, "x"+line, name+"x"+words,
			line+"\n", line+"\r", line+"\t", line+"\x00", "\t"+line, "\n"+line, "\x00"+line, "\ufeff"+line, name+"\t"+words, name+","+words, name+";disc", name+"\ndisc")
	}
}

// TestWrongCountsOfWords: a word is missing, or there is one too many, which may be empty.
func TestWrongCountsOfWords(t *testing.T) {
	for _, name := range commandNames() {
		line := goodLine(name)
		wantErrorsOnAll(t, line+" ", line+"  ", line+" 1", line+" 1 ", line+" x", line+strings.Repeat(" 1", 5), line+strings.Repeat(" ", 100))
		if shape := shapes[name]; shape != "" {
			words := strings.Split(line, " ")
			wantErrorsOnAll(t, strings.Join(words[:len(words)-1], " "), name, name+" ", name+strings.Repeat(" ", len(shape)), name+strings.Repeat(" ", len(shape)+1))
			for i := 1; i < len(words); i++ {
				wantErrorsOnAll(t, strings.Join(slices.Insert(slices.Clone(words), i, ""), " "))
				words[i] = ""
				wantErrorsOnAll(t, strings.Join(words, " "))
				words = strings.Split(line, " ")
			}
		}
	}
}

// wrongNumbers are words that are no numbers of lines.
var wrongNumbers = []string{
	"", "-", "-0", "+0", "+1", "00", "01", "-01", "0001", "--1", "1-", "- 1", "1,", "1.0", "1e1", "0x1", "0b1", "1_0", "a", "1a", "one",
	"1000000000", "-1000000000", "0000000001", "9223372036854775807", "9223372036854775808", "-9223372036854775808", "18446744073709551617",
	"-18446744073709551615", "1\t", "\t1", "1\n", "\x001", "1\x00", "\uff11", "\u0661", "\u22121", "\xb1", strings.Repeat("0", 100), strings.Repeat("1", 100),
}

// TestWrongNumbers puts words that are no numbers in each place of each command where the other words are right.
func TestWrongNumbers(t *testing.T) {
	lines := []string{
		"change 1 0 0 1", "raise 2 0", "lower 23 3", "divide 2", "elem 1 1 1", "times 1 0 0", "quadratic 1 1 1", "compose 2 1 3", "value 1 1", "kind 2", "points 2",
		"below 2", "with 1 1", "roots -23",
	}
	for _, line := range lines {
		words := strings.Split(line, " ")
		for i := range words[1:] {
			for _, wrong := range wrongNumbers {
				changed := slices.Clone(words)
				changed[1+i] = wrong
				wantErrorsOnAll(t, strings.Join(changed, " "))
			}
		}
	}
}

// TestNumbersOfNineDigits: the table takes each number as a discriminant, so that just the count of the digits
// matters.
func TestNumbersOfNineDigits(t *testing.T) {
	for _, right := range []string{"999999999", "-999999999", "100000000", "-100000000", "99999999", "0", "1", "-1"} {
		wantLine(t, newDesk, "with 1 "+right, newDesk, "none")
	}
	for _, wrong := range []string{"1000000000", "-1000000000", "9999999999", "-9999999999", "0999999999", "099999999", "-099999999", "-00000001"} {
		wantLine(t, newDesk, "with 1 "+wrong, newDesk, "error")
	}
}

// TestWrongTexts: words that are no texts of forms.
func TestWrongTexts(t *testing.T) {
	texts := []string{
		"", ",", ",,,", "1", "1,0,0", "1,0,0,2,", "1,0,0,2,0", ",1,0,0,2", "1,0,,2", "1;0;0;2", "1001,0,0,2", "1,0,0,-1001", "01,0,0,2", "+1,0,0,2", "1,-0,0,2",
		"1,0,0,2\n", "\t1,0,0,2", "1,0,0,x", "1,0,0,--2", "F", "none", "1.0,0,0,2", "9223372036854775808,0,0,1", strings.Repeat("1,", 500) + "1",
	}
	for _, text := range texts {
		wantErrorsOnAll(t, "form "+text, "equal "+text)
	}
	wantErrorsOnAll(t, "form 1 0 0 2", "equal 1 0 0 2", "form 1, 0, 0, 2", "equal 1,0,0, 2")
}

func wantRefused(t *testing.T, d impl.Desk, lines ...string) {
	t.Helper()
	for _, line := range lines {
		wantLine(t, d, line, d, "error")
	}
}

// TestRefusingFunctions: functions return another code than ErrNone, or results are no parts of desks.
func TestRefusingFunctions(t *testing.T) {
	form := func(a, b, c, d int64) impl.Desk { return deskOf(t, impl.Form{a, b, c, d}) }
	elem := func(u, v, w int64) impl.Desk { return deskOf(t, impl.Elem{u, v, w}) }
	wantRefused(t, newDesk,
		"change 1001 0 0 1", "change 1 0 0 -1001", "change 999999999 0 0 1", "change 11 0 0 1",
		"raise 2 0", "raise 2 3", "raise 2 -1", "raise 4 0", "raise 1 0", "raise 0 0", "raise -2 0", "raise 101 0", "lower 2 0", "lower 2 3", "lower 2 -1", "lower 9 0",
		"divide 2", "divide 1", "divide 0", "divide -1", "divide 101",
		"elem 10001 0 0", "elem 0 -10001 0", "elem 0 0 999999999", "times 10001 0 0", "times 0 0 -10001", "times 999999999 999999999 999999999",
		"quadratic 0 0 0", "quadratic -2 1 -3", "quadratic 2 0 2", "quadratic 1 2 1", "quadratic 1 0 501", "quadratic 1000001 2000001 1000001", "quadratic 999999999 999999999 999999999",
		"compose 1 0 1", "compose 1 0 23", "compose -2 1 -3", "compose 2 2 6", "compose 0 0 0", "compose 999999999 0 0", "root",
		"value 10001 0", "value 0 -10001", "value 999999999 999999999", "equal 0,0,0,0", "equal 1,2,1,0", "equal 101,0,0,1", "equal 1,0,0,-1000",
		"kind 0", "kind 1", "kind 4", "kind -2", "kind 101", "points 0", "points 9", "points 101", "below 0", "below 1", "below 91", "below 101",
		"with 0 -23", "with 4 -23", "with -1 0", "with 999999999 0", "roots 0", "roots 1", "roots -1", "roots -2", "roots -2001", "roots -2003", "roots -999999999",
	)
	wantRefused(t, form(0, 0, 0, 0), "normal", "maximal", "reduced", "equal 1,0,0,2", "equal 0,0,0,0", "turns", "above", "height", "group", "raise 4 0", "quadratic 0 0 0", "root")
	wantRefused(t, form(1, 2, 1, 0), "normal", "maximal", "reduced", "turns", "above", "height", "group", "root")
	wantRefused(t, form(101, 0, 0, 1), "normal", "maximal", "reduced", "equal 1,0,0,2", "turns", "norm", "polynomial", "invert", "above", "height")
	wantRefused(t, form(1, 0, 0, 31), "maximal", "above")
	wantRefused(t, form(1, 0, 0, 97), "height")
	wantRefused(t, form(1, 0, 0, 1), "height", "group")
	// Results are beyond the limits.
	wantRefused(t, form(0, 2, 93, 80), "normal", "reduced")
	wantRefused(t, form(0, -30, -29, 30), "maximal")
	wantRefused(t, form(1, 20, 99, -10), "turns")
	wantRefused(t, form(501, 0, 0, 4), "raise 2 0")
	wantRefused(t, form(251, 0, 0, 0), "lower 2 0", "below 2")
	wantRefused(t, deskOf(t, impl.Form{1000, 0, 0, 1}, impl.Elem{0, 10000, 1}), "index", "norm", "polynomial", "invert")
	wantRefused(t, elem(73, 0, 0), "times 137 0 0", "invert")
	wantRefused(t, elem(101, 0, 0), "norm", "polynomial", "invert")
	wantRefused(t, elem(0, 0, 0), "invert")
	wantRefused(t, deskOf(t, impl.Form{1, 0, 0, -65}, impl.Elem{1, -48, 12}), "invert")
	// Triple forms whose root forms are not definite.
	wantRefused(t, form(1, 0, 0, 0), "root")
	wantRefused(t, form(1, 0, 0, 1), "root")
	wantRefused(t, form(1, 3, 0, 1), "root")
	wantRefused(t, form(2, 6, 0, -2), "root")
	wantRefused(t, form(1, 3, -300, -1), "root")
}

// TestBesideRefusals: what the chapters do not refuse has its output, although a near case has none.
func TestBesideRefusals(t *testing.T) {
	wantCommands(t, []commandCase{
		{formAlone(0, 2, 93, 80), "turns", nil, "1"},
		{formAlone(0, 2, 93, 80), "equal 80,93,2,0", nil, "yes"},
		{formAlone(1, 20, 99, -10), "equal -10,99,20,1", nil, "yes"},
		{formAlone(0, -30, -29, 30), "above", nil, "30"},
		{formAlone(1000, 1000, 1000, 1000), "irreducible", nil, "no"},
		{formAlone(1000, 0, 0, 1), "disc", nil, "-27000000"},
		{formAlone(1, 2, 1, 0), "kind 2", nil, "4"},
		{formAlone(100, 0, 0, 1), "norm", nil, "10000"},
		{elemAlone(100, 0, 0), "norm", nil, "1000000"},
		{elemAlone(100, 0, 0), "times 100 0 0", impl.Elem{10000, 0, 0}, "10000 0 0"},
		{formAlone(250, 0, 0, 0), "lower 2 0", impl.Form{1000, 0, 0, 0}, "1000,0,0,0"},
	})
}

// linesToWalk lead to desks of all kinds, and back to better ones.
var linesToWalk = []string{
	"form 1,0,-1,1", "form 1,1,-2,-1", "form 1,0,0,4", "form 0,1,1,0", "form 2,4,0,-2", "form 1,3,-3,-2", "form 30,0,-30,30", "form 0,0,0,0", "form 1,2,1,0",
	"form 1000,-999,3,1", "form 4,2,3,5", "form 1001,0,0,0", "form 1,20,99,-10", "form 1,-3,0,1", "form 1,0,0,-2", "form -2,3,1,5",
	"change 1 1 0 1", "change 0 -1 1 0", "change 2 1 1 1", "change 1 0 3 -1", "change 10 0 0 10", "change 0 1 1 0", "change 2 0 0 1", "reverse", "normal", "normal",
	"raise 2 0", "raise 2 1", "raise 2 2", "raise 3 0", "raise 5 5", "lower 2 0", "lower 2 1", "lower 3 3", "lower 23 13", "lower 5 2", "divide 2", "divide 3", "divide 5", "maximal",
	"elem 0 1 0", "elem 2 1 0", "elem 1 -2 3", "elem -1 0 0", "elem 0 0 0", "elem 10000 -10000 1", "elem 10001 0 0", "elem 0 0 1", "times 0 1 0", "times -1 1 2", "times 3 0 -1",
	"times 0 0 0", "times 100 -100 100", "invert", "invert",
	"quadratic 2 1 3", "quadratic 1 1 6", "quadratic 3 -2 4", "quadratic 1 0 500", "quadratic 2 2 3", "quadratic 5 4 13", "quadratic 1 2 1", "quadratic 17 3 29", "quadratic 1 1 500",
	"compose 2 1 3", "compose 3 1 2", "compose 1 1 6", "compose 3 2 4", "compose 3 2 167", "compose 1 0 1", "compose 9 -7 57", "root", "root", "show", "look", "see",
	"value 2 1", "value -10 7", "value 10000 -10000", "value 10001 0", "disc", "reduced", "equal 1,0,-1,1", "equal 1,0,0,4", "equal 1,2,1,0", "equal 1,1,-2,-1", "turns", "hessian",
	"trace", "norm", "index", "polynomial", "kind 2", "kind 3", "kind 5", "kind 23", "kind 97", "kind 99", "irreducible", "points 2", "points 3", "points 7", "points 8", "below 2",
	"below 3", "below 97", "below 6", "above", "above", "height", "with 1 -23", "with 2 -44", "with 3 49", "with 2 7", "with 5 7", "group", "order", "order", "roots -23", "roots -972",
	"roots -44", "roots -2", "reset", "fly", "", " disc", "disc ", "value 1", "value 1  1", "value 01 1", "value +1 1", "elem 1 2 3 4", "kind", "kind ", "form 1,0,0", "show 1",
}

// neverRefuse has the commands that have an output on each desk.
const neverRefuse = " reverse show look see disc hessian trace irreducible order reset "

// TestWalk: each line leads from a desk to a desk, as the document tells it, and changes nothing with the output
// error. All commands are met with both kinds of outputs, if they have them, on many desks.
func TestWalk(t *testing.T) {
	done, refused := map[string]map[impl.Desk]bool{}, map[string]map[impl.Desk]bool{}
	for name := range shapes {
		done[name], refused[name] = map[impl.Desk]bool{}, map[impl.Desk]bool{}
	}
	d := newDesk
	state := uint32(11)
	for range 8000 {
		state = state*1664525 + 1013904223
		line := linesToWalk[int(state>>16)%len(linesToWalk)]
		want, wantOutput := ranByHand(d, line)
		wantLine(t, d, line, want, wantOutput)
		next, output := impl.RunLine(d, line)
		if !impl.IsDesk(next) || output == "" || strings.Contains(output, "\n") || output == "error" && next != d {
			t.Fatalf("RunLine(%v, %q) = %v, %q", d, line, next, output)
		}
		words := strings.Split(line, " ")
		shape, isCommand := shapes[words[0]]
		switch {
		case !isCommand || len(words) != 1+len(shape):
		case output == "error":
			refused[words[0]][d] = true
		default:
			done[words[0]][d] = true
		}
		d = next
	}
	for _, name := range commandNames() {
		isRefusing := !strings.Contains(neverRefuse, " "+name+" ")
		if len(done[name]) < 10 || isRefusing != (len(refused[name]) > 0) {
			t.Errorf("%s has an output on %d desks, and the output error on %d", name, len(done[name]), len(refused[name]))
		}
	}
}

// joinedByHand executes lines, and joins their outputs.
func joinedByHand(lines []string) (impl.Desk, string) {
	d, outputs := newDesk, ""
	for _, line := range lines {
		if line != "" {
			var output string
			d, output = ranByHand(d, line)
			outputs += output + "\n"
		}
	}
	return d, outputs
}

func wantConsole(t *testing.T, text, want string, wantDesk impl.Desk) {
	t.Helper()
	if got := impl.Console(text); got != want {
		t.Errorf("Console(%q) = %q, want %q", text, got, want)
	}
	if d, ok := impl.DeskAfter(text); d != wantDesk || !ok {
		t.Errorf("DeskAfter(%q) = %v, %v, want %v", text, d, ok, wantDesk)
	}
}

func wantBeyondLimits(t *testing.T, text string) {
	t.Helper()
	if got := impl.Console(text); got != "" {
		t.Errorf("Console of %d bytes = %q", len(text), got)
	}
	if d, ok := impl.DeskAfter(text); d != (impl.Desk{}) || ok {
		t.Errorf("DeskAfter of %d bytes = %v, %v", len(text), d, ok)
	}
}

// TestConsole has the last line with and without a newline, and empty lines in all places.
func TestConsole(t *testing.T) {
	four := impl.Desk{Form: impl.Form{1, 0, 0, 4}, Elem: newDesk.Elem, Quadratic: newDesk.Quadratic}
	cases := []struct {
		text, want string
		desk       impl.Desk
	}{
		{"", "", newDesk},
		{"\n", "", newDesk},
		{"\n\n\n", "", newDesk},
		{"disc", "-23\n", newDesk},
		{"disc\n", "-23\n", newDesk},
		{"\n\ndisc\n\n", "-23\n", newDesk},
		{"form 1,0,0,4", "1,0,0,4\n", four},
		{"form 1,0,0,4\n", "1,0,0,4\n", four},
		{"form 1,0,0,4\ndisc\n\n\npoints 2\nabove", "1,0,0,4\n-432\n0\n2\n", four},
		{"form 1,0,0,4\nform 1,0,0\nshow", "1,0,0,4\nerror\n1,0,0,4\n", four},
		{"form 1,0,0,4\nreset\ndisc\n", "1,0,0,4\nok\n-23\n", newDesk},
		{"quadratic 1 1 6\nelem 1 2 3\nlook\nsee\nshow\norder", "1 1 6\n1 2 3\n1 2 3\n1 1 6\n1,0,-1,1\n1\n", impl.Desk{Form: newDesk.Form, Elem: impl.Elem{1, 2, 3}, Quadratic: impl.Quadratic{1, 1, 6}}},
		{" ", "error\n", newDesk},
		{" \n \n", "error\nerror\n", newDesk},
		{"\r\n", "error\n", newDesk},
		{"disc\r\ndisc", "error\n-23\n", newDesk},
		{"disc \ndisc", "error\n-23\n", newDesk},
		{"disc\x00\n\xff\n\u2028\ndisc\v\ndisc\f\ndisc\u0085\ndisc\u2028disc\nform 1,0,0,4", strings.Repeat("error\n", 7) + "1,0,0,4\n", four},
	}
	for range 2 {
		for _, c := range cases {
			wantConsole(t, c.text, c.want, c.desk)
		}
	}
}

// TestConsoleJoins: the console starts on the new desk each time, and joins the outputs of its lines.
func TestConsoleJoins(t *testing.T) {
	state := uint32(12)
	for round := range 150 {
		var lines []string
		length := 0
		for range 1 + round%40 {
			state = state*1664525 + 1013904223
			line := linesToWalk[int(state>>16)%len(linesToWalk)]
			lines = append(lines, line)
			length += len(line) + 1
		}
		if length > 4000 {
			t.Fatalf("%d bytes", length)
		}
		want, outputs := joinedByHand(lines)
		wantConsole(t, strings.Join(lines, "\n")+"\n", outputs, want)
		wantConsole(t, strings.Join(lines, "\n"), outputs, want)
	}
}

// TestLinesOfConsole counts 40 lines and 41, empty ones included, with and without a newline at the end.
func TestLinesOfConsole(t *testing.T) {
	repeat := strings.Repeat
	wantConsole(t, repeat("disc\n", 39), repeat("-23\n", 39), newDesk)
	wantConsole(t, repeat("disc\n", 40), repeat("-23\n", 40), newDesk)
	wantConsole(t, repeat("disc\n", 39)+"disc", repeat("-23\n", 40), newDesk)
	wantConsole(t, repeat("disc\n\n", 20), repeat("-23\n", 20), newDesk)
	wantConsole(t, repeat("\n", 39)+"disc", "-23\n", newDesk)
	wantConsole(t, repeat("\n", 39)+"disc\n", "-23\n", newDesk)
	wantConsole(t, repeat("\n", 40), "", newDesk)
	wantConsole(t, "disc"+repeat("\n", 40), "-23\n", newDesk)
	for _, text := range []string{
		repeat("disc\n", 41), repeat("disc\n", 40) + "disc", repeat("disc\n", 40) + "\n", repeat("disc\n", 40) + " ", repeat("\n", 40) + "disc", repeat("\n", 41),
		"disc" + repeat("\n", 41), repeat("disc\n\n", 20) + "\n", repeat("disc\n\n", 20) + "disc", "\n" + repeat("disc\n", 40), repeat("fly\n", 41),
		repeat("\n", 4000), repeat("disc\n", 800),
	} {
		wantBeyondLimits(t, text)
	}
}

// TestBytesOfConsole has texts of 4000 bytes and of 4001, whatever these bytes are.
func TestBytesOfConsole(t *testing.T) {
	repeat := strings.Repeat
	form := "form 1,0,0,4\n"
	rest := 4000 - len(form)
	four := impl.Desk{Form: impl.Form{1, 0, 0, 4}, Elem: newDesk.Elem, Quadratic: newDesk.Quadratic}
	for _, filling := range []string{"x", " ", "0", "-", "\x00", "\xff", "\r"} {
		wantConsole(t, form+repeat(filling, rest), "1,0,0,4\nerror\n", four)
		wantConsole(t, form+repeat(filling, rest-1)+"\n", "1,0,0,4\nerror\n", four)
		wantBeyondLimits(t, form+repeat(filling, rest+1))
		wantBeyondLimits(t, form+repeat(filling, rest)+"\n")
	}
	// Two, three and four bytes each: their number is counted, not that of the letters.
	for _, letter := range []string{"\u00e9", "\u6f22", "\U0001f600"} {
		wantConsole(t, repeat(letter, 4000/len(letter)), "error\n", newDesk)
		wantBeyondLimits(t, repeat(letter, 4000/len(letter)+1))
		wantBeyondLimits(t, repeat(letter, 2001))
	}
	line := "kind " + repeat("0", 94)
	wantConsole(t, repeat(line+"\n", 40), repeat("error\n", 40), newDesk)
	wantBeyondLimits(t, repeat(line+"\n", 39)+line+"0\n")
	wantBeyondLimits(t, repeat("x", 1000000))
	wantBeyondLimits(t, repeat("\n", 1000000))
	wantBeyondLimits(t, repeat("disc\n", 1000000))
}

// TestLongLines: RunLine has no limit for the bytes of a line.
func TestLongLines(t *testing.T) {
	for _, filling := range []string{"x", " ", "1", " 1", "1,", "-", "\n", "disc\n"} {
		long := strings.Repeat(filling, 300000)
		for _, start := range []string{"", "disc", "disc ", "form ", "equal ", "kind ", "value 1 ", "change 1 0 0 1", "change 1 0 0 "} {
			wantLine(t, newDesk, start+long, newDesk, "error")
		}
	}
}
