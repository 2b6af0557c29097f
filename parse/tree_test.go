package parse_test

import (
	"math/rand"
	"strconv"
	"strings"

	"rivermark/api"
)

// writer writes forms and expressions as the grammar has it, and notes where they begin.
type writer struct {
	src []byte
	// Between tokens, and where parentheses are not needed: nothing but a space, and no parentheses, if there is no source of chance.
	rng *rand.Rand
}

// put writes a token, and returns where it begins.
func (w *writer) put(s string) int {
	switch {
	case w.rng == nil && len(w.src) > 0:
		w.src = append(w.src, ' ')
	case w.rng != nil && (w.rng.Intn(3) == 0 || w.touches(s[0])):
		blanks := []string{" ", "\n", "\t", "\r\n ", "#\n", " # ( a ;\n", "#\xff\n\n"}
		w.src = append(w.src, blanks[w.rng.Intn(len(blanks))]...)
	}
	at := len(w.src)
	w.src = append(w.src, s...)
	return at
}

// touches reports whether a token that begins with a byte needs a blank after what has been written.
func (w *writer) touches(c byte) bool {
	if len(w.src) == 0 || strings.IndexByte("(){};,?", c) >= 0 {
		return false
	}
	last := w.src[len(w.src)-1]
	if strings.IndexByte(`(){};,?`, last) >= 0 || last == '"' || c == '"' {
		return false
	}
	return isWord(last) == isWord(c)
}

// isWord reports whether names and numbers can have a byte.
func isWord(c byte) bool {
	return c == '_' || c >= '0' && c <= '9' || c >= 'a' && c <= 'z' || c >= 'A' && c <= 'Z'
}

// chance reports whether something that makes no difference is done.
func (w *writer) chance() bool { return w.rng != nil && w.rng.Intn(8) == 0 }

// forms writes forms.
func (w *writer) forms(l []api.Form) {
	for i := range l {
		l[i].At = w.put(l[i].Word)
		for k := range l[i].Args {
			w.arg(&l[i].Args[k])
		}
		if len(l[i].Body) == 0 && !w.chance() {
			w.put(";")
			continue
		}
		w.put("{")
		w.forms(l[i].Body)
		w.put("}")
	}
}

// arg writes an argument.
func (w *writer) arg(a *api.Arg) {
	switch a.Kind {
	case 1:
		a.At = w.put(a.S)
	case 2:
		switch {
		case a.N < 0 || a.N == 0 && w.chance():
			a.At = w.put("-")
			w.put(strconv.Itoa(max(a.N, -a.N)))
		default:
			a.At = w.put(strconv.Itoa(a.N))
		}
	case 3:
		a.At = w.put(quote(a.S))
	case 4:
		a.At = w.put("->")
	case 5:
		a.At = w.put("(")
		w.expr(&a.E, "expr")
		w.put(")")
	}
}

// quote returns a text as it is in a source.
func quote(s string) string {
	return `"` + strings.NewReplacer(`"`, `\"`, `\`, `\\`, "\n", `\n`).Replace(s) + `"`
}

// expr writes an expression where the grammar has a symbol.
func (w *writer) expr(e *api.Expr, symbol string) {
	if !isA(symbolOf(e.Op), symbol) || w.chance() {
		w.put("(")
		w.expr(e, "expr")
		w.put(")")
		return
	}
	switch e.Op {
	case 1:
		e.At = w.put(strconv.Itoa(e.N))
	case 2:
		e.At = w.put(quote(e.S))
	case 3:
		e.At = w.put(e.S)
	case 4:
		e.At = w.put(e.S)
		w.put("(")
		for i := range e.Kids {
			if i > 0 {
				w.put(",")
			}
			w.expr(&e.Kids[i], "expr")
		}
		w.put(")")
	default:
		w.operation(e)
	}
}

// operation writes an operation, whose symbol the grammar has here.
func (w *writer) operation(e *api.Expr) {
	sign := strings.Fields("! - * / % + - == != < <= > >= && || ?")[e.Op-5]
	switch symbolOf(e.Op) {
	case "not":
		e.At = w.put(sign)
		w.expr(&e.Kids[0], "not")
		return
	case "neg":
		e.At = w.put(sign)
		w.expr(&e.Kids[0], "neg")
		return
	case "term":
		w.two(e, "term", sign, "neg")
	case "sum":
		w.two(e, "sum", sign, "term")
	case "cmp":
		w.two(e, "sum", sign, "sum")
	case "and":
		w.two(e, "and", sign, "not")
	case "or":
		w.two(e, "or", sign, "and")
	case "expr":
		w.two(e, "or", sign, "expr")
		w.put(":")
		w.expr(&e.Kids[2], "expr")
	}
	e.At = e.Kids[0].At
}

// two writes two expressions with a sign between them.
func (w *writer) two(e *api.Expr, first, sign, second string) {
	w.expr(&e.Kids[0], first)
	w.put(sign)
	w.expr(&e.Kids[1], second)
}

// symbolOf returns the last symbol of the grammar that operations are.
func symbolOf(op int) string {
	return [...]string{1: "atom", 2: "atom", 3: "atom", 4: "atom", 5: "not", 6: "neg", 7: "term", 8: "term", 9: "term", 10: "sum", 11: "sum", 12: "cmp", 13: "cmp", 14: "cmp", 15: "cmp", 16: "cmp", 17: "cmp", 18: "and", 19: "or", 20: "expr"}[op]
}

// isA reports whether what is a symbol of the grammar is another one, too.
func isA(symbol, other string) bool {
	symbols := "expr or and not cmp sum term neg atom"
	return strings.Index(symbols, symbol) >= strings.Index(symbols, other)
}

// source returns forms as a source, and notes their offsets.
func source(rng *rand.Rand, l []api.Form) string {
	w := &writer{rng: rng}
	w.forms(l)
	return string(w.src)
}

// exprSource returns an expression as a source, and notes its offsets.
func exprSource(rng *rand.Rand, e *api.Expr) string {
	w := &writer{rng: rng}
	w.expr(e, "expr")
	return string(w.src)
}

// someExpr returns an expression of some depth at most, with one more of some kind of operations.
func someExpr(rng *rand.Rand, depth int) api.Expr {
	kind := 1 + rng.Intn(20)
	if depth == 0 {
		kind = 1 + rng.Intn(3)
	}
	e := api.Expr{Op: kind}
	switch kind {
	case 1:
		e.N = someNumber(rng)
		return e
	case 2:
		e.S = someText(rng)
		return e
	case 3:
		e.S = someName(rng)
		return e
	case 4:
		e.S = someName(rng)
	}
	for range kidsOf(rng, kind) {
		e.Kids = append(e.Kids, someExpr(rng, depth-1))
	}
	return e
}

// kidsOf returns how many kids an operation has, or may have.
func kidsOf(rng *rand.Rand, op int) int {
	switch {
	case op < 4:
		return 0
	case op == 4:
		return rng.Intn(4)
	case op <= 6:
		return 1
	case op <= 19:
		return 2
	}
	return 3
}

func someNumber(rng *rand.Rand) int {
	return []int{0, 1, rng.Intn(1000), rng.Intn(1e15), 999999999999999}[rng.Intn(5)]
}

func someName(rng *rand.Rand) string {
	return []string{"a", "b", "_", "B9", "x_1", strings.Repeat("n", 32)}[rng.Intn(6)]
}

func someText(rng *rand.Rand) string {
	return []string{"", "a", "(", "->", "\"", "\\", "\n", "a b\n\\n", strings.Repeat("\"", 200), " ~"}[rng.Intn(10)]
}

// someForms returns forms of some depth at most.
func someForms(rng *rand.Rand, depth int) []api.Form {
	var l []api.Form
	if depth == 0 {
		return l
	}
	for range rng.Intn(4) {
		f := api.Form{Word: someName(rng)}
		for range rng.Intn(5) {
			f.Args = append(f.Args, someArg(rng))
		}
		f.Body = someForms(rng, depth-1)
		l = append(l, f)
	}
	return l
}

// someArg returns an argument.
func someArg(rng *rand.Rand) api.Arg {
	a := api.Arg{Kind: 1 + rng.Intn(5)}
	switch a.Kind {
	case 1:
		a.S = someName(rng)
	case 2:
		a.N = someNumber(rng) * (1 - 2*rng.Intn(2))
	case 3:
		a.S = someText(rng)
	case 5:
		a.E = someExpr(rng, rng.Intn(4))
	}
	return a
}
