package tree_test

import (
	"fmt"
	"math"
	"slices"
	"strings"
	"testing"

	"flotsam/api"
	"flotsam/tree"
)

// The numbers E and X of the chapter, by kind, written out. There is no kind 0.
var (
	exprs = [...]int{-1, 1, 1, 3, 2, 2, 2, 1, 1, 1, 1, 0, 1, 1, 0, 0, 1, 1, 1}
	parts = [...]int{-1, 0, 0, 0, 0, 1, 1, 1, 1, 2, 2, 2, 2, 2, 2}
)

// The kinds of statements that differ from the others.
const (
	write, barrier, let, ifs, repeat, call, txn = 3, 11, 12, 13, 14, 15, 16
)

// odd are numbers that are no kinds.
var odd = []int{0, -1, -2, -18, 19, 20, 32, 255, 256, 257, 65537, math.MaxInt32, math.MaxInt, math.MinInt, 1<<32 + 3, 1<<62 + 1}

// P1602: the numbers of expressions and operands, and kinds that do not exist.
func TestNumbers(t *testing.T) {
	for op := 1; op <= 18; op++ {
		if n, ok := tree.Exprs(op); n != exprs[op] || !ok {
			t.Errorf("Exprs(%d) = %d, %v", op, n, ok)
		}
	}
	for op := 1; op <= 14; op++ {
		if n, ok := tree.Parts(op); n != parts[op] || !ok {
			t.Errorf("Parts(%d) = %d, %v", op, n, ok)
		}
	}
	for _, op := range odd {
		if n, ok := tree.Exprs(op); n != 0 || ok {
			t.Errorf("Exprs(%d) = %d, %v", op, n, ok)
		}
	}
	for _, op := range append([]int{15, 16, 17, 18}, odd...) {
		if n, ok := tree.Parts(op); n != 0 || ok {
			t.Errorf("Parts(%d) = %d, %v", op, n, ok)
		}
	}
}

// expr is a valid expression of a kind, of depth 1 or 2.
func expr(op int) api.Expr {
	x := api.Expr{Op: op}
	if op == api.ExName {
		x.S = "v"
	}
	for range parts[op] {
		x.X = append(x.X, api.Expr{Op: api.ExNum, N: 7})
	}
	return x
}

// stmt is a valid statement of a kind, with empty blocks.
func stmt(op int) api.Stmt {
	s := api.Stmt{Op: op}
	if op == let || op == call {
		s.S = "f"
	}
	for range exprs[op] {
		s.E = append(s.E, expr(api.ExText))
	}
	return s
}

// block is a block of statements.
func block(l ...api.Stmt) []api.Stmt { return l }

// with is s with this Body and Else.
func with(s api.Stmt, body, other []api.Stmt) api.Stmt {
	s.Body, s.Else = body, other
	return s
}

// places are programs that have a statement in all kinds of blocks in which any statement can be.
func places(s api.Stmt) []api.Program {
	l := []api.Program{
		{Main: block(s)},
		{Recover: block(s)},
		{Procs: []api.Proc{{Name: "p", Body: block(s)}}},
		{Procs: []api.Proc{{Name: "p"}, {Name: "p", Body: block(stmt(barrier), s)}}, Main: block(stmt(barrier))},
	}
	for _, inner := range [][]api.Stmt{{s}, {stmt(write), s, stmt(repeat)}} {
		l = append(l,
			api.Program{Main: block(with(stmt(ifs), inner, nil))},
			api.Program{Main: block(with(stmt(ifs), nil, inner))},
			api.Program{Recover: block(stmt(let), with(stmt(repeat), inner, nil))},
			api.Program{Procs: []api.Proc{{Name: "p", Body: block(with(stmt(ifs), block(stmt(call)), inner))}}})
	}
	return l
}

// short is the beginning of what a value is printed as.
func short(x any) string {
	return fmt.Sprintf("%.300s", fmt.Sprint(x))
}

// judge checks whether a statement is valid, wherever it is.
func judge(t *testing.T, s api.Stmt, want bool) {
	t.Helper()
	for i, p := range places(s) {
		if got := tree.Right(p); got != want {
			t.Errorf("%s at place %d: Right = %v", short(s), i, got)
		}
	}
}

// judgeExpr checks whether an expression is valid, wherever it is.
func judgeExpr(t *testing.T, x api.Expr, want bool) {
	t.Helper()
	for op := 1; op <= 18; op++ {
		for i := range exprs[op] {
			s := stmt(op)
			s.E[i] = x
			judge(t, s, want)
		}
	}
	for _, l := range [][]api.Oracle{{{Name: "o", E: x}}, {{Name: "o", E: expr(api.ExBool)}, {Name: "o", E: x}}} {
		if got := tree.Right(api.Program{Oracles: l}); got != want {
			t.Errorf("%s in an oracle: Right = %v", short(x), got)
		}
	}
	if len(x.X) > 0 || x.Op < 1 || x.Op > 14 {
		return
	}
	// What has no operands can be one everywhere.
	for op := 5; op <= 14; op++ {
		for i := range parts[op] {
			outer := expr(op)
			outer.X[i] = x
			if got := tree.Right(api.Program{Main: block(api.Stmt{Op: api.StAssert, E: []api.Expr{outer}})}); got != want {
				t.Errorf("%s: Right = %v", short(outer), got)
			}
		}
	}
}

// P1602: statements of all kinds, and numbers that are no kinds.
func TestKindsOfStatements(t *testing.T) {
	for op := 1; op <= 18; op++ {
		judge(t, stmt(op), true)
	}
	for _, op := range odd {
		for n := range 4 {
			judge(t, api.Stmt{Op: op, E: slices.Repeat([]api.Expr{expr(api.ExText)}, n)}, false)
		}
	}
}

// P1602: each kind of statement has its number of expressions.
func TestNumbersOfExpressions(t *testing.T) {
	for op := 1; op <= 18; op++ {
		for n := range 6 {
			s := stmt(op)
			s.E = slices.Repeat([]api.Expr{expr(api.ExText)}, n)
			judge(t, s, n == exprs[op])
		}
		s := stmt(op)
		s.E = make([]api.Expr, 1<<16)
		judge(t, s, false)
	}
}

// names are texts, and whether they are names.
var names = map[string]bool{"a": true, "abcdefgh": true, "x_9": true, "if1": true, "": false, "if": false, "barrier": false, "commit": false, "A": false, "_a": false, "9": false, "abcdefghi": false, "a b": false, "a ": false, "/a": false, "é": false, "\x00": false, strings.Repeat("a", 1<<16): false}

// P1602: let and call have a name, and nothing else has a text.
func TestNamesOfStatements(t *testing.T) {
	for op := 1; op <= 18; op++ {
		for text, ok := range names {
			s := stmt(op)
			s.S = text
			if op == let || op == call {
				judge(t, s, ok)
			} else {
				judge(t, s, text == "")
			}
		}
	}
}

// P1602: a repeat is done 0 to 16 times, and nothing else has a number.
func TestNumbersOfStatements(t *testing.T) {
	for op := 1; op <= 18; op++ {
		for _, n := range []int64{0, 1, 2, 15, 16, 17, 32, 256, 1 << 32, -1, -16, math.MaxInt64, math.MinInt64} {
			s := stmt(op)
			s.N = n
			judge(t, s, n == 0 || op == repeat && n > 0 && n <= 16)
		}
	}
}

// P1602: only a txn is committed.
func TestCommit(t *testing.T) {
	for op := 1; op <= 18; op++ {
		s := stmt(op)
		s.Commit = true
		judge(t, s, op == txn)
		judge(t, with(s, block(stmt(write)), nil), op == txn)
	}
}

// P1602: which statements have a Body and an Else. Empty ones are like those that are missing.
func TestBlocks(t *testing.T) {
	for op := 1; op <= 18; op++ {
		s, inner := stmt(op), block(stmt(write))
		judge(t, with(s, inner, nil), op == ifs || op == repeat || op == txn)
		judge(t, with(s, nil, inner), op == ifs)
		judge(t, with(s, inner, inner), op == ifs)
		judge(t, with(s, block(stmt(barrier)), nil), op == ifs || op == repeat)
		judge(t, with(s, []api.Stmt{}, []api.Stmt{}), true)
		s.E = append([]api.Expr{}, s.E...)
		judge(t, with(s, make([]api.Stmt, 0, 5), make([]api.Stmt, 0, 5)), true)
	}
}

// P1602: a txn has at most 8 statements, all of them valid writes.
func TestTxn(t *testing.T) {
	for n := range 12 {
		s := with(stmt(txn), slices.Repeat(block(stmt(write)), n), nil)
		judge(t, s, n <= 8)
		s.Commit = true
		judge(t, s, n <= 8)
	}
	for op := 1; op <= 18; op++ {
		for i := range 3 {
			l := block(stmt(write), stmt(write), stmt(write))
			l[i] = stmt(op)
			judge(t, with(stmt(txn), l, nil), op == write)
		}
	}
	for _, s := range []api.Stmt{{Op: write}, {Op: write, E: make([]api.Expr, 3)}, with(stmt(write), block(stmt(write)), nil), with(stmt(write), nil, block(stmt(write)))} {
		judge(t, with(stmt(txn), block(s), nil), false)
		judge(t, with(stmt(txn), block(stmt(write), s), nil), false)
	}
	judge(t, with(stmt(txn), make([]api.Stmt, 1<<16), nil), false)
}

// P1602: expressions of all kinds, and numbers that are no kinds.
func TestKindsOfExpressions(t *testing.T) {
	for op := 1; op <= 14; op++ {
		judgeExpr(t, expr(op), true)
	}
	for _, op := range append([]int{15, 16}, odd...) {
		for n := range 3 {
			judgeExpr(t, api.Expr{Op: op, X: slices.Repeat([]api.Expr{expr(api.ExNum)}, n)}, false)
		}
	}
}

// P1602: each kind of expression has its number of operands, and each of them is valid.
func TestOperands(t *testing.T) {
	for op := 1; op <= 14; op++ {
		for n := range 5 {
			x := expr(op)
			x.X = slices.Repeat([]api.Expr{expr(api.ExNum)}, n)
			judgeExpr(t, x, n == parts[op])
		}
		x := expr(op)
		x.X = append(make([]api.Expr, 0, 4), x.X...)
		judgeExpr(t, x, true)
		for i := range x.X {
			y := expr(op)
			y.X[i] = api.Expr{}
			judgeExpr(t, y, false)
		}
		x.X = make([]api.Expr, 1<<16)
		judgeExpr(t, x, false)
	}
}

// P1602: N is in the range of its kind.
func TestNumbersInExpressions(t *testing.T) {
	const most = 1000000000000
	for op := 1; op <= 14; op++ {
		for _, n := range []int64{0, 1, 2, 16, 17, 1 << 32, most - 1, most, most + 1, 2 * most, -1, -most, math.MaxInt64, math.MinInt64} {
			x := expr(op)
			x.N = n
			judgeExpr(t, x, n == 0 || n == 1 && op == api.ExBool || n > 0 && n <= most && op == api.ExNum)
		}
	}
}

// P1602: S is a text of at most 64 bytes, a name, or empty, as its kind requires.
func TestTextsInExpressions(t *testing.T) {
	texts := map[string]bool{strings.Repeat("x", 64): false, strings.Repeat("\xff", 64): false, strings.Repeat("x", 65): false, strings.Repeat("\n", 65): false}
	for text, ok := range names {
		texts[text] = ok
	}
	for op := 1; op <= 14; op++ {
		for text, name := range texts {
			x := expr(op)
			x.S = text
			switch op {
			case api.ExText:
				judgeExpr(t, x, len(text) <= 64)
			case api.ExName:
				judgeExpr(t, x, name)
			default:
				judgeExpr(t, x, text == "")
			}
		}
	}
}

// deepExpr is an expression of this depth, which is reached by operand i of expressions of one kind.
func deepExpr(depth, op, i int) api.Expr {
	x := expr(api.ExName)
	for range depth - 1 {
		outer := expr(op)
		outer.X[i] = x
		x = outer
	}
	return x
}

// P1602: an expression is at most 8 deep.
func TestDeepExpressions(t *testing.T) {
	for op := 5; op <= 14; op++ {
		for i := range parts[op] {
			for _, depth := range []int{1, 2, 7, 8, 9, 10, 100} {
				judgeExpr(t, deepExpr(depth, op, i), depth <= 8)
			}
		}
	}
	wide := expr(api.ExNum)
	for depth := 1; depth <= 12; depth++ {
		judgeExpr(t, wide, depth <= 8)
		wide = api.Expr{Op: api.ExAdd, X: []api.Expr{wide, wide}}
	}
}

// around puts a block into statements within one another, as many as depth.
func around(depth int, inner []api.Stmt, outer func([]api.Stmt) api.Stmt) []api.Stmt {
	for range depth {
		inner = block(outer(inner))
	}
	return inner
}

// outers are the ways to put a block one level deeper.
var outers = []func([]api.Stmt) api.Stmt{
	func(l []api.Stmt) api.Stmt { return with(stmt(repeat), l, nil) },
	func(l []api.Stmt) api.Stmt { return with(stmt(ifs), l, nil) },
	func(l []api.Stmt) api.Stmt { return with(stmt(ifs), nil, l) },
	func(l []api.Stmt) api.Stmt { return with(stmt(ifs), block(stmt(barrier)), l) },
}

// judgeBlock checks whether a block is valid, whatever part of a program it is.
func judgeBlock(t *testing.T, l []api.Stmt, want bool) {
	t.Helper()
	for i, p := range []api.Program{{Main: l}, {Recover: l}, {Procs: []api.Proc{{Name: "p", Body: l}}}} {
		if got := tree.Right(p); got != want {
			t.Errorf("%s at part %d: Right = %v", short(l), i, got)
		}
	}
}

// P1602: a statement is in a block of depth 8 at most. An empty block can have depth nine.
func TestDeepStatements(t *testing.T) {
	writes := slices.Repeat(block(stmt(write)), 8)
	for _, outer := range outers {
		for depth := 1; depth <= 12; depth++ {
			for op := 1; op <= 18; op++ {
				judgeBlock(t, around(depth-1, block(stmt(op)), outer), depth <= 8)
			}
			judgeBlock(t, around(depth-1, block(with(stmt(txn), writes, nil)), outer), depth+1 <= 8)
			judgeBlock(t, around(depth-1, block(stmt(repeat), with(stmt(repeat), block(stmt(barrier)), nil), stmt(ifs)), outer), depth+1 <= 8)
		}
	}
}

// P1602: there are at most 256 statements in all parts together.
func TestManyStatements(t *testing.T) {
	for _, n := range []int{0, 1, 255, 256, 257, 258, 1 << 16} {
		l := slices.Repeat(block(stmt(barrier)), n)
		third := n / 3
		ok := n <= 256
		judgeBlock(t, l, ok)
		for _, p := range []api.Program{
			{Main: l[:third], Recover: l[third:]},
			{Main: l[:third], Procs: []api.Proc{{Name: "p", Body: l[third : 2*third]}, {Name: "q", Body: l[2*third:]}}},
			{Recover: l[:third], Procs: []api.Proc{{Name: "p"}, {Name: "q", Body: l[third:]}}},
		} {
			if got := tree.Right(p); got != ok {
				t.Errorf("%d statements: Right = %v", n, got)
			}
		}
		for _, outer := range outers {
			judgeBlock(t, append(block(outer(l[:third])), l[third:]...), n+tree.Count(block(outer(nil))) <= 256)
		}
	}
	for _, n := range []int{28, 29} {
		// A txn with 8 writes is 9 statements.
		l := slices.Repeat(block(with(stmt(txn), slices.Repeat(block(stmt(write)), 8), nil)), n)
		judgeBlock(t, l, n == 28)
		judgeBlock(t, append(l[:28:28], slices.Repeat(block(stmt(barrier)), 4)...), true)
		judgeBlock(t, append(l[:28:28], slices.Repeat(block(stmt(barrier)), 5)...), false)
	}
}

// P1602: there are at most 16 procedures and 16 oracles, and all have names.
func TestProcsAndOracles(t *testing.T) {
	for n := range 20 {
		procs := slices.Repeat([]api.Proc{{Name: "p"}}, n)
		oracles := slices.Repeat([]api.Oracle{{Name: "o", E: expr(api.ExNum)}}, n)
		for _, p := range []api.Program{{Procs: procs}, {Oracles: oracles}, {Procs: procs, Oracles: oracles}} {
			if got := tree.Right(p); got != (n <= 16) {
				t.Errorf("%d of them: Right = %v", n, got)
			}
		}
	}
	for text, ok := range names {
		for _, p := range []api.Program{
			{Procs: []api.Proc{{Name: text}}},
			{Procs: []api.Proc{{Name: "p"}, {Name: text, Body: block(stmt(barrier))}}},
			{Oracles: []api.Oracle{{Name: text, E: expr(api.ExBool)}}},
			{Oracles: []api.Oracle{{Name: "o", E: expr(api.ExBool)}, {Name: text, E: expr(api.ExNum)}}},
		} {
			if got := tree.Right(p); got != ok {
				t.Errorf("the name %.80q: Right = %v", text, got)
			}
		}
	}
	if !tree.Right(api.Program{}) || !tree.Right(api.Program{Procs: []api.Proc{}, Main: []api.Stmt{}, Recover: []api.Stmt{}, Oracles: []api.Oracle{}}) {
		t.Error("a program without anything is not valid")
	}
	if tree.Right(api.Program{Procs: make([]api.Proc, 1<<16)}) || tree.Right(api.Program{Oracles: make([]api.Oracle, 1<<16)}) {
		t.Error("too many are valid")
	}
	if tree.Right(api.Program{Oracles: []api.Oracle{{Name: "o"}}}) {
		t.Error("an oracle without an expression is valid")
	}
}

// endless checks that a block is not valid. It is not printed: that would not end.
func endless(t *testing.T, what string, op int, l []api.Stmt) {
	t.Helper()
	for i, p := range []api.Program{{Main: l}, {Recover: l}, {Procs: []api.Proc{{Name: "p", Body: l}}}} {
		if tree.Right(p) {
			t.Errorf("%s of kind %d at part %d is valid", what, op, i)
		}
	}
}

// P1601: Right ends even if blocks contain themselves, or are in many places.
func TestRightEnds(t *testing.T) {
	for op := 1; op <= 18; op++ {
		s := block(stmt(op), stmt(op))
		s[0].Body = s
		endless(t, "a Body in itself", op, s)
		s[0].Body, s[0].Else = nil, s
		endless(t, "an Else in itself", op, s)
		s[0].Body, s[1].Else = s, s
		endless(t, "a block twice in itself", op, s)
		twice := block(stmt(op))
		for range 60 {
			twice = block(with(stmt(repeat), twice, nil), with(stmt(ifs), twice, twice))
		}
		endless(t, "a great block", op, twice)
	}
	for op := 5; op <= 14; op++ {
		l := []api.Expr{{Op: op}, {Op: op}}
		l[0].X, l[1].X = l[:parts[op]], l[:parts[op]]
		s := stmt(let)
		s.E[0] = l[0]
		endless(t, "an operand in itself", op, block(s))
		if tree.Right(api.Program{Oracles: []api.Oracle{{Name: "o", E: l[0]}}}) {
			t.Errorf("an oracle in itself of kind %d is valid", op)
		}
	}
}
