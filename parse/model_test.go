package parse_test

import (
	"math/rand"
	"slices"
	"strings"
	"testing"

	"rivermark/api"
	"rivermark/lexer"
	"rivermark/parse"
)

// grammar has the productions of each symbol, with | between them. A symbol with a ^ begins a new depth, the symbol whole the first one.
var grammar = map[string]string{
	"source":   "| form source",
	"form":     "WORD tail",
	"tail":     "; | { body } | arg tail",
	"body":     "| form^ body",
	"arg":      "NAME | NUMBER | - NUMBER | TEXT | -> | ( whole )",
	"whole":    "expr",
	"expr":     "or choice",
	"choice":   "| ? expr^ : expr^",
	"or":       "and ors",
	"ors":      "| || and ors",
	"and":      "not ands",
	"ands":     "| && not ands",
	"not":      "! not^ | cmp",
	"cmp":      "sum compared",
	"compared": "| == sum | != sum | < sum | <= sum | > sum | >= sum",
	"sum":      "term sums",
	"sums":     "| + term sums | - term sums",
	"term":     "neg terms",
	"terms":    "| * neg terms | / neg terms | % neg terms",
	"neg":      "- neg^ | atom",
	"atom":     "NUMBER | TEXT | NAME call | ( expr^ )",
	"call":     "| ( list )",
	"list":     "| item items",
	"items":    "| , item items",
	"item":     "expr^",
}

// productions are those of the grammar, as lists of symbols.
var productions = func() map[string][][]string {
	all := map[string][][]string{}
	for name, text := range grammar {
		for _, production := range strings.Split(" "+text+" ", " | ") {
			all[name] = append(all[name], strings.Fields(production))
		}
	}
	return all
}()

// symbol is a symbol of the grammar, its depth, how many arguments came before it, and whether what begins with it is beyond a limit.
type symbol struct {
	name          string
	depth, before int
	over          bool
}

// stack is symbols that have to follow, the first one on top.
type stack struct {
	top   symbol
	under *stack
}

// begin returns the stacks with which sources of a symbol begin.
func begin(name string) []*stack {
	return []*stack{{top: symbol{name: name, depth: 1}}}
}

// part returns the symbol that is at a place of a production of another one.
func part(of symbol, name string, place int) symbol {
	s := symbol{name: strings.TrimSuffix(name, "^"), depth: of.depth, over: of.over && place == 0}
	switch {
	case s.name != name:
		s.depth++
	case s.name == "whole":
		s.depth = 1
	case s.name == "items", s.name == "tail" && of.name == "tail":
		s.before = of.before + 1
	case s.name == "arg", s.name == "item":
		s.before = of.before
	}
	s.over = s.over || s.depth > 30 || s.before >= 40 && s.name != "items" && s.name != "tail"
	return s
}

// expand returns the stacks with terminals on top, or without a symbol (nil), that some stacks stand for.
func expand(l []*stack) []*stack {
	var all []*stack
	for _, s := range l {
		if s == nil || productions[s.top.name] == nil {
			all = append(all, s)
			continue
		}
		for _, names := range productions[s.top.name] {
			longer := s.under
			for place := len(names) - 1; place >= 0; place-- {
				longer = &stack{part(s.top, names[place], place), longer}
			}
			all = append(all, expand([]*stack{longer})...)
		}
	}
	return all
}

// fits reports whether a stack begins with a token.
func fits(s *stack, t api.Token) bool {
	if s == nil {
		return t.Kind == api.TkEnd
	}
	switch s.top.name {
	case "WORD", "NAME":
		return t.Kind == api.TkName
	case "NUMBER":
		return t.Kind == api.TkNumber
	case "TEXT":
		return t.Kind == api.TkText
	}
	return t.Kind == api.TkSign && t.S == s.top.name
}

// follow returns what can follow after a token, or the error that there is at it.
func follow(l []*stack, t api.Token) ([]*stack, api.Errno) {
	var rest []*stack
	e := api.ErrSyntax
	for _, s := range expand(l) {
		switch {
		case !fits(s, t):
		case s == nil:
			return nil, api.OK
		case s.top.over:
			return nil, api.ErrLimit
		default:
			e = api.OK
			rest = append(rest, s.under)
		}
	}
	return rest, e
}

// beginsForm reports whether a token, which fits, is the word of a form.
func beginsForm(l []*stack, t api.Token) bool {
	return slices.ContainsFunc(expand(l), func(s *stack) bool { return fits(s, t) && s != nil && s.top.name == "WORD" })
}

// model returns the problem of a source of a symbol.
func model(name, src string) api.Problem {
	tokens, p := lexer.Tokens(src)
	if p.E != api.OK {
		return p
	}
	l, words := begin(name), 0
	for _, t := range tokens {
		l = expand(l)
		if beginsForm(l, t) {
			words++
		}
		rest, e := follow(l, t)
		if e == api.OK && words > 2000 {
			e = api.ErrLimit
		}
		if e != api.OK {
			return api.Problem{At: t.At, E: e}
		}
		l = rest
	}
	return api.Problem{}
}

// checkSource checks the problem of a source of a symbol, and that nothing else is returned with it.
func checkSource(t *testing.T, name, src string, want api.Problem) {
	t.Helper()
	var p api.Problem
	empty := true
	if name == "source" {
		var l []api.Form
		l, p = parse.Forms(src)
		empty = len(l) == 0
	} else {
		var e api.Expr
		e, p = parse.Expr(src)
		empty = e.Op == 0 && e.N == 0 && e.S == "" && len(e.Kids) == 0 && e.At == 0
	}
	if p != want {
		t.Fatalf("P8.1: the %s %.500q has the problem %v, not %v", name, src, p, want)
	}
	if p.At < 0 || p.At > len(src) {
		t.Fatalf("P8.6: the %s %.500q has the problem %v", name, src, p)
	}
	if p.E != api.OK && !empty {
		t.Fatalf("P8.1: the %s %.500q has the problem %v, and a result", name, src, p)
	}
}

// wordsOf are tokens of which sources are made.
func wordsOf(name string) []string {
	if name == "source" {
		return strings.Fields(`a 1 "t" - -> ( ) { } ; + ! , = ==`)
	}
	return strings.Fields(`a 1 "t" - ! + * / % == < && || ? : ( ) , ; -> { =`)
}

// explore visits all sources of at most some tokens, as far as only the last one has a problem.
func explore(t *testing.T, name, src string, l []*stack, length int) {
	l = expand(l)
	_, e := follow(l, api.Token{Kind: api.TkEnd})
	checkSource(t, name, src, at(len(src), e))
	if length == 0 {
		return
	}
	for _, word := range wordsOf(name) {
		tokens, _ := lexer.Tokens(word)
		rest, e := follow(l, tokens[0])
		if e == api.OK {
			explore(t, name, src+word+" ", rest, length-1)
			continue
		}
		for _, after := range []string{"", " a", ";", ")"} {
			checkSource(t, name, src+word+after, at(len(src), e))
		}
	}
}

// at returns a problem, or none if there is no error.
func at(offset int, e api.Errno) api.Problem {
	if e == api.OK {
		return api.Problem{}
	}
	return api.Problem{At: offset, E: e}
}

func TestShortSources(t *testing.T) {
	explore(t, "source", "", begin("source"), 5)
	explore(t, "whole", "", begin("whole"), 5)
}

// someTokens returns a source of a symbol, with a token that cannot follow now and then. Some tokens in it are frequent, so that it is beyond a limit sometimes.
func someTokens(rng *rand.Rand, name string, length int) string {
	words := wordsOf(name)
	for range 1 + rng.Intn(3) {
		often := words[rng.Intn(len(words))]
		words = append(words, slices.Repeat([]string{often}, 10*rng.Intn(4))...)
	}
	src, l := "", begin(name)
	for range length {
		word := words[rng.Intn(len(words))]
		tokens, _ := lexer.Tokens(word)
		rest, e := follow(l, tokens[0])
		if e == api.OK {
			src, l = src+word+" ", expand(rest)
		} else if rng.Intn(200) == 0 || e == api.ErrLimit && rng.Intn(3) == 0 {
			src, l = src+word+" ", nil
		}
	}
	if rng.Intn(4) == 0 {
		return src
	}
	return src + theEnd(l)
}

// theEnd returns tokens with which a source can end.
func theEnd(l []*stack) string {
	src := ""
	for {
		_, e := follow(l, api.Token{Kind: api.TkEnd})
		if e == api.OK || len(l) == 0 {
			return src
		}
		// What closes something comes first, so that this ends.
		for _, word := range strings.Fields(") } ; : a 1") {
			tokens, _ := lexer.Tokens(word)
			if rest, e := follow(l, tokens[0]); e != api.ErrSyntax {
				src, l = src+word+" ", rest
				break
			}
		}
	}
}

func TestLongSources(t *testing.T) {
	rng := rand.New(rand.NewSource(81))
	count := map[api.Errno]int{}
	for range 4000 {
		for _, name := range []string{"source", "whole"} {
			src := someTokens(rng, name, rng.Intn(150))
			p := model(name, src)
			checkSource(t, name, src, p)
			count[p.E]++
		}
	}
	if count[api.OK] < 1000 || count[api.ErrSyntax] < 1000 || count[api.ErrLimit] < 200 {
		t.Errorf("the sources have too few of some problems: %v", count)
	}
}

func TestAnyBytes(t *testing.T) {
	rng := rand.New(rand.NewSource(82))
	for range 5000 {
		b := []byte(someTokens(rng, "source", rng.Intn(20)))
		for range rng.Intn(3) {
			b = slices.Insert(b, rng.Intn(len(b)+1), byte(rng.Intn(256)))
		}
		for _, name := range []string{"source", "whole"} {
			checkSource(t, name, string(b), model(name, string(b)))
		}
	}
}
