package parse_test

import (
	"reflect"
	"strings"
	"testing"

	"rivermark/api"
	"rivermark/parse"
)

// The expressions of some kinds at an offset.
func numberAt(at, n int) api.Expr       { return api.Expr{Op: api.ExNumber, N: n, At: at} }
func textAt(at int, s string) api.Expr  { return api.Expr{Op: api.ExText, S: s, At: at} }
func nameAt(at int, s string) api.Expr  { return api.Expr{Op: api.ExName, S: s, At: at} }
func op(op int, l ...api.Expr) api.Expr { return api.Expr{Op: op, Kids: l, At: l[0].At} }
func opAt(at, op int, kid api.Expr) api.Expr {
	return api.Expr{Op: op, Kids: []api.Expr{kid}, At: at}
}
func callAt(at int, s string, l ...api.Expr) api.Expr {
	return api.Expr{Op: api.ExCall, S: s, Kids: l, At: at}
}

// checkExpr checks the expression of a source that has no problem, with all its offsets.
func checkExpr(t *testing.T, src string, want api.Expr) {
	t.Helper()
	if e, p := parse.Expr(src); !reflect.DeepEqual(plainExpr(e), plainExpr(want)) || p != (api.Problem{}) {
		t.Fatalf("P8.1: the expression %.500q is %v, %v, not %v", src, e, p, want)
	}
}

// checkForms checks the forms of a source that has no problem, with all their offsets.
func checkForms(t *testing.T, src string, want []api.Form) {
	t.Helper()
	if l, p := parse.Forms(src); !reflect.DeepEqual(plainForms(l), plainForms(want)) || p != (api.Problem{}) {
		t.Fatalf("P8.1: the forms %.500q are %v, %v, not %v", src, l, p, want)
	}
}

// plainExpr returns an expression in which lists without elements are nil.
func plainExpr(e api.Expr) api.Expr {
	var kids []api.Expr
	for _, k := range e.Kids {
		kids = append(kids, plainExpr(k))
	}
	e.Kids = kids
	return e
}

// plainForms returns forms in which lists without elements are nil.
func plainForms(l []api.Form) []api.Form {
	var plain []api.Form
	for _, f := range l {
		var args []api.Arg
		for _, a := range f.Args {
			a.E = plainExpr(a.E)
			args = append(args, a)
		}
		f.Args, f.Body = args, plainForms(f.Body)
		plain = append(plain, f)
	}
	return plain
}

func TestExamples(t *testing.T) {
	checkForms(t, `lift l1 -5 "a" -> (x + 1) { dog; }`, []api.Form{{
		Word: "lift",
		Args: []api.Arg{
			{Kind: api.ArName, S: "l1", At: 5}, {Kind: api.ArNumber, N: -5, At: 8}, {Kind: api.ArText, S: "a", At: 11}, {Kind: api.ArArrow, At: 15},
			{Kind: api.ArExpr, E: op(api.ExAdd, nameAt(19, "x"), numberAt(23, 1)), At: 18},
		},
		Body: []api.Form{{Word: "dog", At: 28}},
	}})
	checkExpr(t, "a - b - c * -d", op(api.ExSub, op(api.ExSub, nameAt(0, "a"), nameAt(4, "b")), op(api.ExMul, nameAt(8, "c"), opAt(12, api.ExNeg, nameAt(13, "d")))))
	const src = "!a == b ? f(1, 2) : (a < b) == c"
	checkExpr(t, src, op(api.ExIf,
		opAt(0, api.ExNot, op(api.ExEq, nameAt(1, "a"), nameAt(6, "b"))),
		callAt(10, "f", numberAt(12, 1), numberAt(15, 2)),
		op(api.ExEq, op(api.ExLt, nameAt(21, "a"), nameAt(25, "b")), nameAt(31, "c"))))
	e, _ := parse.Expr(src)
	if s, f := parse.PrintExpr(e); s != "! a == b ? f ( 1 , 2 ) : ( a < b ) == c" || f != api.OK {
		t.Errorf("P8.2: PrintExpr of the example is %q, %v", s, f)
	}
	checkSource(t, "whole", "a < b < c", at(6, api.ErrSyntax))
	checkSource(t, "whole", "a b", at(2, api.ErrSyntax))
	checkSource(t, "source", "x (", at(3, api.ErrSyntax))
	checkSource(t, "source", "x - y;", at(4, api.ErrSyntax))
}

func TestForms(t *testing.T) {
	checkForms(t, "", nil)
	checkForms(t, " # no form\n", nil)
	checkForms(t, "a;", []api.Form{{Word: "a"}})
	checkForms(t, "a{}", []api.Form{{Word: "a"}})
	checkForms(t, "a{b{}c;}d;", []api.Form{{Word: "a", Body: []api.Form{{Word: "b", At: 2}, {Word: "c", At: 5}}}, {Word: "d", At: 8}})
	checkForms(t, "a 0 -0 - 999999999999999 999999999999999;", []api.Form{{Word: "a", Args: []api.Arg{
		{Kind: api.ArNumber, At: 2}, {Kind: api.ArNumber, At: 4}, {Kind: api.ArNumber, N: -999999999999999, At: 7}, {Kind: api.ArNumber, N: 999999999999999, At: 25},
	}}})
	checkForms(t, `a"("b->"\n"(((1)))-2;`, []api.Form{{Word: "a", Args: []api.Arg{
		{Kind: api.ArText, S: "(", At: 1}, {Kind: api.ArName, S: "b", At: 4}, {Kind: api.ArArrow, At: 5}, {Kind: api.ArText, S: "\n", At: 7},
		{Kind: api.ArExpr, E: numberAt(14, 1), At: 11}, {Kind: api.ArNumber, N: -2, At: 18},
	}}})
}

func TestOperations(t *testing.T) {
	for sign, kind := range map[string]int{"*": 7, "/": 8, "%": 9, "+": 10, "-": 11, "==": 12, "!=": 13, "<": 14, "<=": 15, ">": 16, ">=": 17, "&&": 18, "||": 19} {
		second := 2 + len(sign)
		checkExpr(t, "a "+sign+"b", op(kind, nameAt(0, "a"), nameAt(second, "b")))
		checkExpr(t, "(a "+sign+"b)", op(kind, nameAt(1, "a"), nameAt(second+1, "b")))
		checkExpr(t, `" " `+sign+"1", op(kind, textAt(0, " "), numberAt(4+len(sign), 1)))
		src := "a " + sign + "b " + sign + "c"
		if kind >= api.ExEq && kind <= api.ExGe {
			checkSource(t, "whole", src, at(second+2, api.ErrSyntax))
		} else {
			checkExpr(t, src, op(kind, op(kind, nameAt(0, "a"), nameAt(second, "b")), nameAt(second+2+len(sign), "c")))
		}
		checkExpr(t, "a "+sign+"(b "+sign+"c)", op(kind, nameAt(0, "a"), op(kind, nameAt(second+1, "b"), nameAt(second+3+len(sign), "c"))))
	}
	checkExpr(t, "!a", opAt(0, api.ExNot, nameAt(1, "a")))
	checkExpr(t, "(-(a))", opAt(1, api.ExNeg, nameAt(3, "a")))
	checkExpr(t, "f()", callAt(0, "f"))
	checkExpr(t, "f(g(),(1))", callAt(0, "f", callAt(2, "g"), numberAt(7, 1)))
	checkExpr(t, "((a))?(b):(c)", op(api.ExIf, nameAt(2, "a"), nameAt(7, "b"), nameAt(11, "c")))
	checkExpr(t, "a?b:c?d:e", op(api.ExIf, nameAt(0, "a"), nameAt(2, "b"), op(api.ExIf, nameAt(4, "c"), nameAt(6, "d"), nameAt(8, "e"))))
}

func TestProblemsOfForms(t *testing.T) {
	for src, want := range map[string]api.Problem{
		"a": at(1, api.ErrSyntax), "a # b": at(5, api.ErrSyntax), ";": at(0, api.ErrSyntax), "{}": at(0, api.ErrSyntax), "1": at(0, api.ErrSyntax), "a;}": at(2, api.ErrSyntax), "a{": at(2, api.ErrSyntax), "a{;}": at(2, api.ErrSyntax), "a{b}": at(3, api.ErrSyntax), "a,b;": at(1, api.ErrSyntax), "a - -1;": at(4, api.ErrSyntax), "a - (1);": at(4, api.ErrSyntax), "a !1;": at(2, api.ErrSyntax), "a f(1,2);": at(5, api.ErrSyntax), "a ->": at(4, api.ErrSyntax), "a - > 1;": at(4, api.ErrSyntax), "a \"-\" - \"1\";": at(8, api.ErrSyntax),
		"a ; b $": at(6, api.ErrChar), "; $": at(2, api.ErrChar), "; 01": at(2, api.ErrNumber), "1 \"\n": at(2, api.ErrText), "; " + strings.Repeat("n", 33): at(2, api.ErrLimit), ";" + strings.Repeat(" ", 65536): at(0, api.ErrLimit),
	} {
		checkSource(t, "source", src, want)
	}
}

func TestLimitsOfForms(t *testing.T) {
	forms := strings.Repeat("a;", 1998)
	args := "a" + strings.Repeat(" 1", 40)
	deep := strings.Repeat("a{", 30)
	close := strings.Repeat("}", 30)
	brackets := strings.Repeat("(", 29)
	for src, want := range map[string]api.Problem{
		forms + "a{b;}":                    {},
		forms + "a{b;}c;":                  at(len(forms)+5, api.ErrLimit),
		forms + "a{b;c;}":                  at(len(forms)+4, api.ErrLimit),
		forms + "a{b{c;}}":                 at(len(forms)+4, api.ErrLimit),
		forms + "a;b;c":                    at(len(forms)+4, api.ErrLimit),
		forms + "a;b;;":                    at(len(forms)+4, api.ErrSyntax),
		args + "{}" + args + ";":           {},
		args + "{" + args + ";}":           {},
		args + " b;":                       at(82, api.ErrLimit),
		args + " \"\";":                    at(82, api.ErrLimit),
		args + " -1;":                      at(82, api.ErrLimit),
		args + " - x":                      at(82, api.ErrLimit),
		args + " (":                        at(82, api.ErrLimit),
		args + " ->":                       at(82, api.ErrLimit),
		args + " +":                        at(82, api.ErrSyntax),
		args + "}":                         at(81, api.ErrSyntax),
		deep + close:                       {},
		deep + close + "a":                 at(91, api.ErrSyntax),
		deep + "a;" + close:                at(60, api.ErrLimit),
		deep + "1":                         at(60, api.ErrSyntax),
		deep[:58] + "b(" + brackets + "1":  at(60+29+1, api.ErrSyntax),
		deep[:58] + "b(" + brackets + "(1": at(60+30, api.ErrLimit),
		deep[:58] + "b(" + brackets + "()": at(60+30, api.ErrSyntax),
	} {
		checkSource(t, "source", src, want)
	}
	checkSource(t, "source", strings.Repeat("a{", 32768), at(60, api.ErrLimit))
	checkSource(t, "source", strings.Repeat("a;", 32768), at(4000, api.ErrLimit))
}

// TestDepth reaches the greatest depth in all ways, and goes one beyond it.
func TestDepth(t *testing.T) {
	for _, x := range []struct {
		open, close string
		depth       int
	}{
		{"(", ")", 1}, {"f(", ")", 1}, {"f(1,", ",2)", 1}, {"!", "", 1}, {"-", "", 1}, {"a?", ":b", 1}, {"a?b:", "", 1}, {"(1+", ")", 1},
		{"!(", ")", 2}, {"-(", ")", 2}, {"a?(", "):b", 2}, {"f(-", ")", 2}, {"f(!a,-b&&!", "||a)", 2}, {"a?-f(1,", "):b", 3},
	} {
		left := strings.Repeat("(", 29%x.depth)
		before := strings.Repeat(x.open, 29/x.depth) + left
		after := strings.Repeat(")", len(left)) + strings.Repeat(x.close, 29/x.depth)
		checkSource(t, "whole", before+"a"+after, api.Problem{})
		checkSource(t, "whole", before+"("+"a)"+after, at(len(before)+1, api.ErrLimit))
		checkSource(t, "whole", before+"-f(", at(len(before)+1, api.ErrLimit))
		checkSource(t, "whole", before+"-!a", at(len(before)+1, api.ErrSyntax))
		checkSource(t, "whole", before+"(!a", at(len(before)+1, api.ErrLimit))
		checkSource(t, "whole", before+"(+a", at(len(before)+1, api.ErrSyntax))
		checkSource(t, "whole", before+"f()"+after, api.Problem{})
		checkSource(t, "whole", before+"f(\"\"", at(len(before)+2, api.ErrLimit))
	}
	for _, open := range []string{"(", "!", "-", "f(", "a?"} {
		checkSource(t, "whole", strings.Repeat(open, api.MaxSource/len(open)), at(30*len(open), api.ErrLimit))
	}
	checkSource(t, "whole", strings.Repeat("a?b:", api.MaxSource/4), at(29*4+2, api.ErrLimit))
	// What is beside an expression does not make it deeper.
	sum := strings.Repeat("-a*(b)+", 4000) + "!"
	checkSource(t, "whole", sum, at(len(sum)-1, api.ErrSyntax))
	checkSource(t, "whole", strings.Repeat("!a&&", 4000)+"b", api.Problem{})
}

func TestArgumentsOfCalls(t *testing.T) {
	args := "f(" + strings.Repeat("1,", 39)
	for src, want := range map[string]api.Problem{
		args + "1)": {}, args + "(1))": {}, "f(g()," + args + "1)," + args + "1))": {},
		args + "1,1)": at(82, api.ErrLimit), args + "1,!a": at(82, api.ErrLimit), args + "1,-": at(82, api.ErrLimit), args + "1,(": at(82, api.ErrLimit), args + "1,\"\"": at(82, api.ErrLimit),
		args + "1,)": at(82, api.ErrSyntax), args + "1,": at(82, api.ErrSyntax), args + "1,*": at(82, api.ErrSyntax), args + ",": at(80, api.ErrSyntax), args + ")": at(80, api.ErrSyntax), args + "1;": at(81, api.ErrSyntax),
	} {
		checkSource(t, "whole", src, want)
	}
}

func TestProblemsOfExpressions(t *testing.T) {
	for src, want := range map[string]api.Problem{
		"": at(0, api.ErrSyntax), " # a\n": at(5, api.ErrSyntax), "a;": at(1, api.ErrSyntax), "()": at(1, api.ErrSyntax), "(a": at(2, api.ErrSyntax), "a+": at(2, api.ErrSyntax), "a++b": at(2, api.ErrSyntax), "a--b": {}, "a*!b": at(2, api.ErrSyntax), "a==!b": at(3, api.ErrSyntax), "!!a": {}, "a||!b": {}, "a<b==c": at(3, api.ErrSyntax), "a<b&&c<d": {}, "a?b:": at(4, api.ErrSyntax), "a?:b": at(2, api.ErrSyntax), "a:b": at(1, api.ErrSyntax), "f(,1)": at(2, api.ErrSyntax), "f((1,2))": at(4, api.ErrSyntax), "(f)(1)": at(3, api.ErrSyntax), "f()(1)": at(3, api.ErrSyntax), "\"f\"(1)": at(3, api.ErrSyntax), "a->b": at(1, api.ErrSyntax), "a&b": at(1, api.ErrSyntax), "a\"+\"b": at(1, api.ErrSyntax),
		"a b $": at(4, api.ErrChar), "+ 1a": at(2, api.ErrNumber),
	} {
		checkSource(t, "whole", src, want)
	}
}
