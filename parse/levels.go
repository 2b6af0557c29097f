package parse

import "rivermark/api"

// Levels of expressions, which have their names in the grammar: one of a greater level can be wherever one of a lesser level can be.
const (
	levelExpr = iota
	levelOr
	levelAnd
	levelNot
	levelCmp
	levelSum
	levelTerm
	levelNeg
	levelAtom
)

// operation says how an operation is written: its sign, how many kids it has, its level, and the least level of its first kid and of the others. Only a call has kids that are not counted here.
type operation struct {
	sign                     string
	kids, level, first, rest int
}

// operations has the operations of expressions at their places. A first kid of the operation's own level means that operations are grouped from the left.
var operations = [...]operation{
	api.ExNumber: {"", 0, levelAtom, 0, 0},
	api.ExText:   {"", 0, levelAtom, 0, 0},
	api.ExName:   {"", 0, levelAtom, 0, 0},
	api.ExCall:   {"", 0, levelAtom, 0, 0},
	api.ExNot:    {"!", 1, levelNot, levelNot, 0},
	api.ExNeg:    {"-", 1, levelNeg, levelNeg, 0},
	api.ExMul:    {"*", 2, levelTerm, levelTerm, levelNeg},
	api.ExDiv:    {"/", 2, levelTerm, levelTerm, levelNeg},
	api.ExMod:    {"%", 2, levelTerm, levelTerm, levelNeg},
	api.ExAdd:    {"+", 2, levelSum, levelSum, levelTerm},
	api.ExSub:    {"-", 2, levelSum, levelSum, levelTerm},
	api.ExEq:     {"==", 2, levelCmp, levelSum, levelSum},
	api.ExNe:     {"!=", 2, levelCmp, levelSum, levelSum},
	api.ExLt:     {"<", 2, levelCmp, levelSum, levelSum},
	api.ExLe:     {"<=", 2, levelCmp, levelSum, levelSum},
	api.ExGt:     {">", 2, levelCmp, levelSum, levelSum},
	api.ExGe:     {">=", 2, levelCmp, levelSum, levelSum},
	api.ExAnd:    {"&&", 2, levelAnd, levelAnd, levelNot},
	api.ExOr:     {"||", 2, levelOr, levelOr, levelAnd},
	api.ExIf:     {"?", 3, levelExpr, levelOr, levelExpr},
}
