package parse_test

import (
	"math/rand"
	"reflect"
	"testing"

	"rivermark/api"
	"rivermark/parse"
)

// printedExpr returns an expression with nothing but what is compared.
func printedExpr(e api.Expr) api.Expr {
	p := api.Expr{Op: e.Op}
	if e.Op == 1 {
		p.N = e.N
	}
	if e.Op == 2 || e.Op == 3 || e.Op == 4 {
		p.S = e.S
	}
	if e.Op < 1 || e.Op > 3 {
		for _, k := range e.Kids {
			p.Kids = append(p.Kids, printedExpr(k))
		}
	}
	return p
}

// printedForms returns forms with nothing but what is compared.
func printedForms(l []api.Form) []api.Form {
	var printed []api.Form
	for _, f := range l {
		p := api.Form{Word: f.Word, Body: printedForms(f.Body)}
		for _, a := range f.Args {
			b := api.Arg{Kind: a.Kind}
			switch a.Kind {
			case 1, 3:
				b.S = a.S
			case 2:
				b.N = a.N
			case 5:
				b.E = printedExpr(a.E)
			}
			p.Args = append(p.Args, b)
		}
		printed = append(printed, p)
	}
	return printed
}

// checkSame compares forms, and reports whether they are the same.
func checkSame(t *testing.T, a, b []api.Form) bool {
	t.Helper()
	want := reflect.DeepEqual(printedForms(a), printedForms(b))
	if parse.Same(a, b) != want || parse.Same(b, a) != want {
		t.Fatalf("P8.3: Same of %v and %v is not %v", a, b, want)
	}
	return want
}

// checkSameExpr compares expressions, and reports whether they are the same.
func checkSameExpr(t *testing.T, a, b api.Expr) bool {
	t.Helper()
	want := reflect.DeepEqual(printedExpr(a), printedExpr(b))
	if parse.SameExpr(a, b) != want || parse.SameExpr(b, a) != want {
		t.Fatalf("P8.3: SameExpr of %v and %v is not %v", a, b, want)
	}
	return want
}

// changeExpr changes a field somewhere in an expression.
func changeExpr(rng *rand.Rand, e *api.Expr) {
	parts := partsOf(e)
	x := parts[rng.Intn(len(parts))]
	switch rng.Intn(6) {
	case 0:
		x.Op = rng.Intn(23) - 1
	case 1:
		x.N += rng.Intn(3) - 1
	case 2:
		x.S = someName(rng)
	case 3:
		x.At += rng.Intn(2)
	case 4:
		x.Kids = append(x.Kids, someExpr(rng, 1))
	case 5:
		x.Kids = x.Kids[:len(x.Kids)/2]
	}
}

// changeForms changes a field of the first form, or of one in its body.
func changeForms(rng *rand.Rand, l []api.Form) []api.Form {
	if len(l) == 0 || rng.Intn(10) == 0 {
		return append(l, api.Form{Word: "a"})
	}
	f := &l[rng.Intn(len(l))]
	switch rng.Intn(9) {
	case 0:
		f.Word = someName(rng)
	case 1:
		f.At++
	case 2:
		f.Body = changeForms(rng, f.Body)
	case 3:
		f.Args = append(f.Args, someArg(rng))
	default:
		if len(f.Args) > 0 {
			changeArg(rng, &f.Args[rng.Intn(len(f.Args))])
		}
	}
	return l
}

// changeArg changes a field of an argument.
func changeArg(rng *rand.Rand, a *api.Arg) {
	switch rng.Intn(6) {
	case 0:
		a.Kind = rng.Intn(8) - 1
	case 1:
		a.N += rng.Intn(3) - 1
	case 2:
		a.S = someName(rng)
	case 3:
		a.At++
	default:
		changeExpr(rng, &a.E)
	}
}

func TestSameExpr(t *testing.T) {
	rng := rand.New(rand.NewSource(93))
	same := 0
	for range 20000 {
		a := someExpr(rng, rng.Intn(4))
		b := plainExpr(a)
		for range 1 + rng.Intn(3) {
			if checkSameExpr(t, a, b) {
				same++
			}
			changeExpr(rng, &b)
		}
		checkSameExpr(t, a, b)
	}
	if same < 5000 {
		t.Errorf("only %d expressions were the same", same)
	}
}

func TestSame(t *testing.T) {
	rng := rand.New(rand.NewSource(94))
	same := 0
	for range 20000 {
		a := someForms(rng, 3)
		b := plainForms(a)
		for range 1 + rng.Intn(3) {
			if checkSame(t, a, b) {
				same++
			}
			b = changeForms(rng, b)
		}
		checkSame(t, a, b)
	}
	if same < 5000 {
		t.Errorf("only %d forms were the same", same)
	}
}

func TestSameOfWhatIsNotRight(t *testing.T) {
	kids := []api.Expr{one, one}
	for _, op := range []int{-1, 0, 21} {
		a := api.Expr{Op: op, N: 1, S: "a", At: 3, Kids: kids}
		if !parse.SameExpr(a, api.Expr{Op: op, Kids: kids}) || parse.SameExpr(a, api.Expr{Op: op, N: 1, S: "a", At: 3}) || parse.SameExpr(a, api.Expr{Op: 22, N: 1, S: "a", Kids: kids}) {
			t.Errorf("P8.3: SameExpr of expressions with the Op %d", op)
		}
	}
	for op := api.ExCall; op <= api.ExIf; op++ {
		if parse.SameExpr(api.Expr{Op: op, Kids: kids}, api.Expr{Op: op, Kids: kids[:1]}) || !parse.SameExpr(api.Expr{Op: op, Kids: kids[:0]}, api.Expr{Op: op}) {
			t.Errorf("P8.3: SameExpr of expressions with the Op %d, and other kids", op)
		}
	}
	empty := []api.Form{{Word: "a", Args: []api.Arg{}, Body: []api.Form{}}}
	if !parse.Same(nil, []api.Form{}) || !parse.Same(empty, []api.Form{{Word: "a"}}) || parse.Same(empty, nil) || parse.Same(empty, []api.Form{{}}) {
		t.Error("P8.3: Same of forms without elements")
	}
	if !parse.SameExpr(api.Expr{}, api.Expr{At: 1}) || parse.SameExpr(one, api.Expr{}) {
		t.Error("P8.3: SameExpr of expressions of no Op")
	}
}
