package parse_test

import (
	"math/rand"
	"reflect"
	"strings"
	"testing"

	"rivermark/api"
	"rivermark/parse"
)

// TestTreesOfExpressions writes expressions in several ways, and reads them again.
func TestTreesOfExpressions(t *testing.T) {
	rng := rand.New(rand.NewSource(83))
	for range 4000 {
		e := someExpr(rng, rng.Intn(7))
		for _, chance := range []*rand.Rand{rng, nil} {
			src := exprSource(chance, &e)
			if p := model("whole", src); p.E != api.OK {
				checkSource(t, "whole", src, p)
				continue
			}
			checkExpr(t, src, e)
			checkParentheses(t, src, e)
			checkPrintedExpr(t, e)
		}
	}
}

// checkParentheses checks that an expression in parentheses is the same one, but for its offsets, unless it is too deep.
func checkParentheses(t *testing.T, src string, e api.Expr) {
	t.Helper()
	longer := "(" + src + "\n)"
	if p := model("whole", longer); p.E != api.OK {
		if p.E != api.ErrLimit {
			t.Fatalf("P8.6: %.500q has the problem %v", longer, p)
		}
		checkSource(t, "whole", longer, p)
		return
	}
	checkExpr(t, longer, movedExpr(e, 1))
}

// movedExpr returns an expression with greater offsets.
func movedExpr(e api.Expr, by int) api.Expr {
	var kids []api.Expr
	for _, k := range e.Kids {
		kids = append(kids, movedExpr(k, by))
	}
	e.Kids = kids
	e.At += by
	return e
}

// movedForms returns forms with greater offsets.
func movedForms(l []api.Form, by int) []api.Form {
	var moved []api.Form
	for _, f := range l {
		var args []api.Arg
		for _, a := range f.Args {
			a.At += by
			if a.Kind == api.ArExpr {
				a.E = movedExpr(a.E, by)
			}
			args = append(args, a)
		}
		f.At += by
		f.Args, f.Body = args, movedForms(f.Body, by)
		moved = append(moved, f)
	}
	return moved
}

// checkPrintedExpr checks that what is printed of an expression that was read is the same expression.
func checkPrintedExpr(t *testing.T, e api.Expr) {
	t.Helper()
	s, f := parse.PrintExpr(e)
	want := exprSource(nil, &e)
	if len(want) > api.MaxSource {
		if s != "" || f != api.ErrLimit {
			t.Fatalf("P8.2: PrintExpr of an expression with %d bytes is %v", len(want), f)
		}
		return
	}
	if s != want || f != api.OK {
		t.Fatalf("P8.2: PrintExpr of %v is %.500q, %v, not %.500q", e, s, f, want)
	}
	again, p := parse.Expr(s)
	if p != (api.Problem{}) || !parse.SameExpr(e, again) || !parse.SameExpr(again, e) {
		t.Fatalf("P8.4: %.500q is %v, %v, not %v", s, again, p, e)
	}
	if same, f := parse.PrintExpr(again); same != s || f != api.OK {
		t.Fatalf("P8.4: %.500q is printed as %.500q, %v", s, same, f)
	}
}

// TestTreesOfForms writes forms in several ways, and reads them again.
func TestTreesOfForms(t *testing.T) {
	rng := rand.New(rand.NewSource(84))
	for range 5000 {
		l := someForms(rng, 1+rng.Intn(4))
		for _, chance := range []*rand.Rand{rng, nil} {
			src := source(chance, l)
			checkForms(t, src, l)
			checkPrintedForms(t, l)
		}
	}
}

// checkPrintedForms checks that what is printed of forms that were read is the same forms.
func checkPrintedForms(t *testing.T, l []api.Form) {
	t.Helper()
	s, e := parse.Print(l)
	if want := source(nil, l); s != want || e != api.OK {
		t.Fatalf("P8.2: Print of %v is %.500q, %v, not %.500q", l, s, e, want)
	}
	again, p := parse.Forms(s)
	if p != (api.Problem{}) || !parse.Same(l, again) || !parse.Same(again, l) {
		t.Fatalf("P8.4: %.500q is %v, %v, not %v", s, again, p, l)
	}
	if same, e := parse.Print(again); same != s || e != api.OK {
		t.Fatalf("P8.4: %.500q is printed as %.500q, %v", s, same, e)
	}
}

// TestPrintingWhatWasRead reads any sources, and prints what they are.
func TestPrintingWhatWasRead(t *testing.T) {
	rng := rand.New(rand.NewSource(85))
	for range 2000 {
		if e, p := parse.Expr(someTokens(rng, "whole", rng.Intn(100))); p.E == api.OK {
			checkPrintedExpr(t, e)
		}
		if l, p := parse.Forms(someTokens(rng, "source", rng.Intn(100))); p.E == api.OK {
			checkPrintedForms(t, l)
		}
	}
	// A source without blanks that is as long as possible has a text that is too long, with spaces.
	src := strings.Repeat("a"+strings.Repeat(`""`, 40)+";", 799)
	l, p := parse.Forms(src)
	if p.E != api.OK || len(src) > api.MaxSource {
		t.Fatalf("P8.1: a source of %d bytes has the problem %v", len(src), p)
	}
	if s, e := parse.Print(l); s != "" || e != api.ErrLimit {
		t.Errorf("P8.4: Print of forms of many texts has %d bytes and the error %v", len(s), e)
	}
}

func TestTwoSources(t *testing.T) {
	rng := rand.New(rand.NewSource(86))
	for range 3000 {
		l := someForms(rng, 3)
		first := source(rng, l)
		if rng.Intn(2) == 0 {
			first += " # a comment ;"
		}
		m := someForms(rng, 3)
		second := source(rng, m)
		checkForms(t, first+"\n"+second, append(plainForms(l), movedForms(m, len(first)+1)...))
	}
	for range 2000 {
		first, second := someTokens(rng, "source", rng.Intn(30)), someTokens(rng, "source", rng.Intn(30))
		l, p := parse.Forms(first)
		m, q := parse.Forms(second)
		if p.E == api.OK && q.E == api.OK {
			checkForms(t, first+"\n"+second, append(l, movedForms(m, len(first)+1)...))
		}
	}
	half := strings.Repeat("a;", 1000)
	checkSource(t, "source", half+"\n"+half, api.Problem{})
	checkSource(t, "source", half+"\n"+half+"b;", at(4001, api.ErrLimit))
}

// TestResultsAreNew checks that no two lists of a result share memory, and that no other call sees a change of it.
func TestResultsAreNew(t *testing.T) {
	rng := rand.New(rand.NewSource(87))
	for range 500 {
		l := someForms(rng, 4)
		src := source(rng, l)
		got, _ := parse.Forms(src)
		seen := map[any]bool{}
		checkMemory(t, got, seen)
		clear(got)
		checkForms(t, src, l)
	}
	e, _ := parse.Expr("f(a, b + c, !d ? 1 : 2)")
	clear(e.Kids[1].Kids)
	clear(e.Kids)
	checkExpr(t, "f(a, b+c)", callAt(0, "f", nameAt(2, "a"), op(api.ExAdd, nameAt(5, "b"), nameAt(7, "c"))))
}

// checkMemory checks that the lists of forms lie at places that were not seen yet.
func checkMemory(t *testing.T, l []api.Form, seen map[any]bool) {
	t.Helper()
	see(t, l, seen)
	for _, f := range l {
		see(t, f.Args, seen)
		for _, a := range f.Args {
			checkMemoryOfKids(t, a.E, seen)
		}
		checkMemory(t, f.Body, seen)
	}
}

// checkMemoryOfKids checks that the lists of kids lie at places that were not seen yet.
func checkMemoryOfKids(t *testing.T, e api.Expr, seen map[any]bool) {
	t.Helper()
	see(t, e.Kids, seen)
	for _, k := range e.Kids {
		checkMemoryOfKids(t, k, seen)
	}
}

// see notes the places of a list, also of those that it could still be appended to.
func see[T any](t *testing.T, l []T, seen map[any]bool) {
	t.Helper()
	l = l[:cap(l)]
	for i := range l {
		if seen[&l[i]] {
			t.Fatalf("Rules: two lists of a result share memory")
		}
		seen[&l[i]] = true
	}
}

// TestArgumentsStay checks that printing and comparing change nothing.
func TestArgumentsStay(t *testing.T) {
	rng := rand.New(rand.NewSource(88))
	for range 500 {
		l := someForms(rng, 4)
		before := plainForms(l)
		parse.Print(l)
		parse.Same(l, l)
		if !reflect.DeepEqual(plainForms(l), before) {
			t.Fatalf("Rules: %v has become %v", before, l)
		}
		e := someExpr(rng, 5)
		was := plainExpr(e)
		parse.PrintExpr(e)
		parse.SameExpr(e, e)
		if !reflect.DeepEqual(plainExpr(e), was) {
			t.Fatalf("Rules: %v has become %v", was, e)
		}
	}
}
