package parse_test

import (
	"math"
	"math/rand"
	"slices"
	"strings"
	"testing"

	"rivermark/api"
	"rivermark/lexer"
	"rivermark/parse"
)

var one = api.Expr{Op: api.ExNumber, N: 1}

// checkPrint checks what is printed of an expression, of a form that has it as an argument, and of one with this in its body.
func checkPrint(t *testing.T, e api.Expr, want string, wrong api.Errno) {
	t.Helper()
	if s, f := parse.PrintExpr(e); s != want || f != wrong {
		t.Errorf("P8.2: PrintExpr of an expression is %.200q, %v, not %.200q, %v", s, f, want, wrong)
	}
	checkPrintArg(t, api.Arg{Kind: api.ArExpr, E: e}, "( "+want+" )", wrong)
}

// checkPrintArg checks what is printed of an argument.
func checkPrintArg(t *testing.T, a api.Arg, want string, wrong api.Errno) {
	t.Helper()
	checkPrintForm(t, api.Form{Word: "a", Args: []api.Arg{{Kind: api.ArArrow}, a}}, "a -> "+want+" ;", wrong)
}

// checkPrintForm checks what is printed of a form, and of one that has it in its body.
func checkPrintForm(t *testing.T, f api.Form, want string, wrong api.Errno) {
	t.Helper()
	inner := "b { c ; " + want + " }"
	if wrong != api.OK {
		want, inner = "", ""
	}
	if s, e := parse.Print([]api.Form{f}); s != want || e != wrong {
		t.Errorf("P8.2: Print of a form is %.200q, %v, not %.200q, %v", s, e, want, wrong)
	}
	if s, e := parse.Print([]api.Form{{Word: "b", Body: []api.Form{{Word: "c"}, f}}}); s != inner || e != wrong {
		t.Errorf("P8.2: Print of a form in a body is %.200q, %v, not %.200q, %v", s, e, inner, wrong)
	}
}

func TestNames(t *testing.T) {
	for _, s := range []string{"a", "_", "Z9", "a_1", strings.Repeat("n", 32), strings.Repeat("_", 32)} {
		checkPrint(t, api.Expr{Op: api.ExName, S: s}, s, api.OK)
		checkPrint(t, api.Expr{Op: api.ExCall, S: s}, s+" ( )", api.OK)
		checkPrintArg(t, api.Arg{Kind: api.ArName, S: s}, s, api.OK)
		checkPrintForm(t, api.Form{Word: s}, s+" ;", api.OK)
	}
	wrong := []string{"", " ", "1", "1a", "a b", " a", "a ", "\na", "a\n", "a#", "#", "a-b", "a.b", "\"a\"", "(", "->", "é", "aé", "a\x00", strings.Repeat("n", 33), strings.Repeat(" ", 100000)}
	for c := range 256 {
		if !isWord(byte(c)) {
			wrong = append(wrong, "a"+string([]byte{byte(c)}))
		}
	}
	for _, s := range wrong {
		checkPrint(t, api.Expr{Op: api.ExName, S: s}, "", api.ErrArg)
		checkPrint(t, api.Expr{Op: api.ExCall, S: s, Kids: []api.Expr{one}}, "", api.ErrArg)
		checkPrintArg(t, api.Arg{Kind: api.ArName, S: s}, "", api.ErrArg)
		checkPrintForm(t, api.Form{Word: s}, "", api.ErrArg)
	}
}

func TestTexts(t *testing.T) {
	for s, want := range map[string]string{"": `""`, " ~": `" ~"`, "a\n": `"a\n"`, "\"\\": `"\"\\"`, strings.Repeat("\n", 200): `"` + strings.Repeat(`\n`, 200) + `"`} {
		checkPrint(t, api.Expr{Op: api.ExText, S: s}, want, api.OK)
		checkPrintArg(t, api.Arg{Kind: api.ArText, S: s}, want, api.OK)
	}
	wrong := []string{strings.Repeat("x", 201), strings.Repeat("\n", 201), "é", strings.Repeat("x", 100000)}
	for c := range 256 {
		s := "a" + string([]byte{byte(c)}) + "b"
		if c >= 32 && c <= 126 || c == 10 {
			checkPrint(t, api.Expr{Op: api.ExText, S: s}, quote(s), api.OK)
			continue
		}
		wrong = append(wrong, s)
	}
	for _, s := range wrong {
		checkPrint(t, api.Expr{Op: api.ExText, S: s}, "", api.ErrArg)
		checkPrintArg(t, api.Arg{Kind: api.ArText, S: s}, "", api.ErrArg)
	}
}

func TestNumbers(t *testing.T) {
	for n, want := range map[int]string{0: "0", 1: "1", 999999999999999: "999999999999999"} {
		checkPrint(t, api.Expr{Op: api.ExNumber, N: n}, want, api.OK)
		checkPrintArg(t, api.Arg{Kind: api.ArNumber, N: n}, want, api.OK)
		if n > 0 {
			checkPrint(t, api.Expr{Op: api.ExNumber, N: -n}, "", api.ErrArg)
			checkPrintArg(t, api.Arg{Kind: api.ArNumber, N: -n}, "- "+want, api.OK)
		}
	}
	for _, n := range []int{1000000000000000, -1000000000000000, math.MaxInt, math.MinInt, math.MinInt + 1} {
		checkPrint(t, api.Expr{Op: api.ExNumber, N: n}, "", api.ErrArg)
		checkPrintArg(t, api.Arg{Kind: api.ArNumber, N: n}, "", api.ErrArg)
	}
}

func TestKinds(t *testing.T) {
	for _, kind := range []int{0, -1, 21, 22, math.MinInt, math.MaxInt} {
		for count := range 4 {
			checkPrint(t, api.Expr{Op: kind, S: "a", N: 1, Kids: slices.Repeat([]api.Expr{one}, count)}, "", api.ErrArg)
		}
	}
	for _, kind := range []int{0, -1, 6, math.MinInt, math.MaxInt} {
		checkPrintArg(t, api.Arg{Kind: kind, S: "a", N: 1, E: one}, "", api.ErrArg)
	}
	for kind := api.ExNot; kind <= api.ExIf; kind++ {
		for count := range 5 {
			e := api.Expr{Op: kind, Kids: slices.Repeat([]api.Expr{one}, count)}
			if count == kidsOf(nil, kind) {
				checkPrint(t, e, exprSource(nil, &e), api.OK)
			} else {
				checkPrint(t, e, "", api.ErrArg)
			}
		}
	}
}

// TestFieldsWithoutMeaning has fields that nothing is printed of.
func TestFieldsWithoutMeaning(t *testing.T) {
	wrong := []api.Expr{{}, {Op: -1}}
	checkPrint(t, api.Expr{Op: api.ExNumber, N: 3, S: "1", Kids: wrong, At: -1}, "3", api.OK)
	checkPrint(t, api.Expr{Op: api.ExText, N: -1, S: "1", Kids: wrong, At: 100}, `"1"`, api.OK)
	checkPrint(t, api.Expr{Op: api.ExName, N: -1, S: "a", Kids: wrong}, "a", api.OK)
	checkPrint(t, api.Expr{Op: api.ExCall, N: -1, S: "a", Kids: []api.Expr{one, one}}, "a ( 1 , 1 )", api.OK)
	checkPrint(t, api.Expr{Op: api.ExNeg, N: -1, S: "1", Kids: []api.Expr{one}}, "- 1", api.OK)
	checkPrintArg(t, api.Arg{Kind: api.ArName, S: "a", N: math.MinInt, E: wrong[1], At: -1}, "a", api.OK)
	checkPrintArg(t, api.Arg{Kind: api.ArNumber, S: "\t", N: -4, E: wrong[1]}, "- 4", api.OK)
	checkPrintArg(t, api.Arg{Kind: api.ArText, S: "a", N: math.MinInt, E: wrong[1]}, `"a"`, api.OK)
	checkPrintArg(t, api.Arg{Kind: api.ArArrow, S: "\t", N: math.MinInt, E: wrong[1]}, "->", api.OK)
	checkPrintArg(t, api.Arg{Kind: api.ArExpr, S: "\t", N: math.MinInt, E: one}, "( 1 )", api.OK)
	checkPrintForm(t, api.Form{Word: "w", At: -1, Args: []api.Arg{}, Body: []api.Form{}}, "w ;", api.OK)
}

// TestWrongParts puts something that is not right anywhere.
func TestWrongParts(t *testing.T) {
	rng := rand.New(rand.NewSource(91))
	for range 2000 {
		l := someForms(rng, 4)
		var parts []*api.Expr
		var words []*string
		var visit func(l []api.Form)
		visit = func(l []api.Form) {
			for i := range l {
				words = append(words, &l[i].Word)
				for k := range l[i].Args {
					if a := &l[i].Args[k]; a.Kind == api.ArExpr {
						parts = append(parts, partsOf(&a.E)...)
					}
				}
				visit(l[i].Body)
			}
		}
		visit(l)
		if len(words) == 0 {
			continue
		}
		checkPrintedForms(t, l)
		if len(parts) > 0 && rng.Intn(2) == 0 {
			parts[rng.Intn(len(parts))].Op = 21
		} else {
			*words[rng.Intn(len(words))] = "?"
		}
		if s, e := parse.Print(l); s != "" || e != api.ErrArg {
			t.Fatalf("P8.2: Print of %v is %q, %v", l, s, e)
		}
	}
}

// partsOf returns an expression, and all that are in it.
func partsOf(e *api.Expr) []*api.Expr {
	l := []*api.Expr{e}
	for i := range e.Kids {
		l = append(l, partsOf(&e.Kids[i])...)
	}
	return l
}

// TestNeededParentheses leaves parentheses out, which makes another expression, or none.
func TestNeededParentheses(t *testing.T) {
	rng := rand.New(rand.NewSource(92))
	count := 0
	for range 3000 {
		e := someExpr(rng, 5)
		s, f := parse.PrintExpr(e)
		if f != api.OK {
			t.Fatalf("P8.2: PrintExpr of %v has the error %v", e, f)
		}
		l, _ := lexer.Tokens(s)
		for open := range l {
			if l[open].Kind != api.TkSign || l[open].S != "(" || open > 0 && l[open-1].Kind == api.TkName {
				continue
			}
			count++
			less := slices.Delete(slices.Clone(l), closing(l, open), closing(l, open)+1)
			less = slices.Delete(less, open, open+1)
			if other, p := parse.Expr(lexer.Text(less)); p.E == api.OK && parse.SameExpr(e, other) {
				t.Fatalf("P8.2: %q has parentheses that are not needed", s)
			}
		}
	}
	if count < 1000 {
		t.Errorf("there were only %d parentheses", count)
	}
}

// closing returns where the parenthesis is closed that is open at a place.
func closing(l []api.Token, open int) int {
	depth := 0
	for i := open; ; i++ {
		switch {
		case l[i].Kind != api.TkSign:
		case l[i].S == "(":
			depth++
		case l[i].S == ")":
			depth--
		}
		if depth == 0 {
			return i
		}
	}
}

// TestPairsOfOperations has each operation as each of the kids of each one.
func TestPairsOfOperations(t *testing.T) {
	for outer := api.ExCall; outer <= api.ExIf; outer++ {
		for inner := api.ExNumber; inner <= api.ExIf; inner++ {
			for place := range kidsOf(nil, max(outer, 5)) {
				e := api.Expr{Op: outer, S: "f", Kids: slices.Repeat([]api.Expr{one}, kidsOf(nil, max(outer, 5)))}
				e.Kids[place] = api.Expr{Op: inner, S: "g", N: 7, Kids: slices.Repeat([]api.Expr{one}, kidsOf(nil, max(inner, 5)))}
				checkPrintedExpr(t, e)
			}
		}
	}
}

func TestLimitsOfPrint(t *testing.T) {
	// nest returns an expression in some others.
	nest := func(count int, in func(e api.Expr) api.Expr) api.Expr {
		e := one
		for range count {
			e = in(e)
		}
		return e
	}
	for name, in := range map[string]func(e api.Expr) api.Expr{
		"not":  func(e api.Expr) api.Expr { return api.Expr{Op: api.ExNot, Kids: []api.Expr{e}} },
		"neg":  func(e api.Expr) api.Expr { return api.Expr{Op: api.ExNeg, Kids: []api.Expr{e}} },
		"call": func(e api.Expr) api.Expr { return api.Expr{Op: api.ExCall, S: "f", Kids: []api.Expr{e}} },
		"if":   func(e api.Expr) api.Expr { return api.Expr{Op: api.ExIf, Kids: []api.Expr{one, e, one}} },
	} {
		if s, f := parse.PrintExpr(nest(29, in)); s == "" || f != api.OK {
			t.Errorf("P8.2: PrintExpr of 29 %s has the error %v", name, f)
		}
		for _, count := range []int{30, 31, 1000, 30000, 65000} {
			if s, f := parse.PrintExpr(nest(count, in)); s != "" || f != api.ErrLimit {
				t.Errorf("P8.2: PrintExpr of %d %s has the error %v", count, name, f)
			}
		}
		wrong := in(nest(50, in))
		wrong.Kids = append(wrong.Kids, api.Expr{})
		checkPrint(t, wrong, "", api.ErrArg)
	}
	args := func(count int) []api.Expr { return slices.Repeat([]api.Expr{one}, count) }
	checkPrint(t, api.Expr{Op: api.ExCall, S: "f", Kids: args(40)}, "f ( "+strings.Repeat("1 , ", 39)+"1 )", api.OK)
	checkPrint(t, api.Expr{Op: api.ExCall, S: "f", Kids: args(41)}, "", api.ErrLimit)
	// Groups from the left need no parentheses, and no depth.
	left := func(e api.Expr) api.Expr { return api.Expr{Op: api.ExSub, Kids: []api.Expr{e, one}} }
	right := func(e api.Expr) api.Expr { return api.Expr{Op: api.ExSub, Kids: []api.Expr{one, e}} }
	checkPrint(t, nest(1000, left), "1"+strings.Repeat(" - 1", 1000), api.OK)
	checkPrint(t, nest(30, right), strings.Repeat("1 - ( ", 29)+"1 - 1"+strings.Repeat(" )", 29), api.OK)
	checkPrint(t, nest(31, right), "", api.ErrLimit)
	// An expression of 2^20 numbers, each half of which is the same.
	both := func(e api.Expr) api.Expr { return api.Expr{Op: api.ExAdd, Kids: []api.Expr{e, e}} }
	checkPrint(t, nest(20, both), "", api.ErrLimit)
	checkPrint(t, api.Expr{Op: api.ExMul, Kids: []api.Expr{nest(20, both), {}}}, "", api.ErrArg)
}

func TestLimitsOfPrintedForms(t *testing.T) {
	checkForms := func(what string, l []api.Form, want api.Errno) {
		t.Helper()
		s, e := parse.Print(l)
		if e != want || (s == "") != (e != api.OK) {
			t.Errorf("P8.2: Print of %s has %d bytes, and the error %v", what, len(s), e)
		}
	}
	forms := func(count int) []api.Form { return slices.Repeat([]api.Form{{Word: "a"}}, count) }
	checkForms("2000 forms", forms(2000), api.OK)
	checkForms("2001 forms", forms(2001), api.ErrLimit)
	checkForms("2000 forms with a body", []api.Form{{Word: "a", Body: forms(1999)}}, api.OK)
	checkForms("2001 forms with a body", []api.Form{{Word: "a", Body: forms(2000)}}, api.ErrLimit)
	checkForms("a wrong one after 2001 forms", append(forms(2001), api.Form{}), api.ErrArg)
	arrows := func(count int) []api.Arg { return slices.Repeat([]api.Arg{{Kind: api.ArArrow}}, count) }
	checkForms("40 arguments", []api.Form{{Word: "a", Args: arrows(40)}}, api.OK)
	checkForms("41 arguments", []api.Form{{Word: "a", Args: arrows(41)}}, api.ErrLimit)
	checkForms("a wrong one after 41 arguments", []api.Form{{Word: "a", Args: append(arrows(41), api.Arg{})}}, api.ErrArg)
	deep := func(count int, inner api.Form) []api.Form {
		l := []api.Form{inner}
		for range count {
			l = []api.Form{{Word: "a", Body: l}}
		}
		return l
	}
	checkForms("30 forms in one another", deep(29, api.Form{Word: "a"}), api.OK)
	checkForms("31 forms in one another", deep(30, api.Form{Word: "a"}), api.ErrLimit)
	checkForms("65000 forms in one another", deep(65000, api.Form{Word: "a"}), api.ErrLimit)
	checkForms("a wrong form in 65000 other ones", deep(65000, api.Form{Word: "1"}), api.ErrArg)
	for _, bytes := range []int{65535, 65536, 65537} {
		l := formsOfLength(bytes)
		want := api.OK
		if bytes > api.MaxSource {
			want = api.ErrLimit
		}
		checkForms("long forms", l, want)
		if s, _ := parse.Print(l); want == api.OK && len(s) != bytes {
			t.Errorf("P8.2: Print of forms with %d bytes has %d", bytes, len(s))
		}
	}
}

// formsOfLength returns forms whose text has about as many bytes as a source may have.
func formsOfLength(bytes int) []api.Form {
	texts := func(count int) []api.Arg {
		return slices.Repeat([]api.Arg{{Kind: api.ArText, S: strings.Repeat("x", 190)}}, count)
	}
	// All of these forms but for the last text, and the space and the quotation marks of this one, have 65465 bytes.
	l := slices.Repeat([]api.Form{{Word: "a", Args: texts(40)}}, 8)
	last := api.Arg{Kind: api.ArText, S: strings.Repeat("x", bytes-65465)}
	return append(l, api.Form{Word: "a", Args: append(texts(19), last)})
}
