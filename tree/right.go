package tree

import (
	"slices"

	"flotsam/api"
	"flotsam/lex"
)

const (
	maxNum     = 1_000_000_000_000
	maxOracles = 16
	maxWrites  = 8
)

// Exprs returns the number of expressions of a kind of statement, or false if there is no such kind.
func Exprs(op int) (int, bool) {
	switch op {
	case api.StBarrier, api.StRepeat, api.StCall:
		return 0, true
	case api.StCreate, api.StMkdir, api.StUnlink, api.StFsync, api.StFdata, api.StSyncdir,
		api.StLet, api.StIf, api.StTxn, api.StReplay, api.StAssert:
		return 1, true
	case api.StAppend, api.StTruncate, api.StRename:
		return 2, true
	case api.StWrite:
		return 3, true
	}
	return 0, false
}

// Parts returns the number of operands of a kind of expression, or false if there is no such kind.
func Parts(op int) (int, bool) {
	switch op {
	case api.ExNum, api.ExText, api.ExBool, api.ExName:
		return 0, true
	case api.ExExists, api.ExSize, api.ExRead, api.ExNot:
		return 1, true
	case api.ExAdd, api.ExSub, api.ExEq, api.ExLt, api.ExAnd, api.ExOr:
		return 2, true
	}
	return 0, false
}

// Right reports whether a program is valid.
func Right(p api.Program) bool {
	return len(p.Procs) <= api.MaxProcs &&
		len(p.Oracles) <= maxOracles &&
		every(p.Procs, func(x api.Proc) bool { return lex.Name(x.Name) }) &&
		every(p.Oracles, func(x api.Oracle) bool { return lex.Name(x.Name) && rightExpr(x.E, top) }) &&
		rightBlocks(bodies(p))
}

// rightBlocks reports whether the blocks of a program have valid statements, and not too many.
func rightBlocks(l [][]api.Stmt) bool {
	n := 0
	for depth, s := range statements(top, l...) {
		n++
		// What is in a statement is not asked for after it was refused: it can be nested without an end.
		if n > api.MaxStmts || !rightStmt(s, depth) {
			return false
		}
	}
	return true
}

// rightStmt reports whether a statement in a block of this depth is valid, apart from what the statements in its blocks are by themselves.
func rightStmt(s api.Stmt, depth int) bool {
	count, known := Exprs(s.Op)
	return known &&
		depth <= api.MaxNest &&
		len(s.E) == count &&
		every(s.E, func(x api.Expr) bool { return rightExpr(x, top) }) &&
		(s.Op == api.StRepeat && upTo(s.N, api.MaxLoop) || s.N == 0) &&
		rightName(s.S, s.Op == api.StLet || s.Op == api.StCall) &&
		(s.Op == api.StTxn || !s.Commit) &&
		rightBody(s) &&
		(s.Op == api.StIf || len(s.Else) == 0)
}

// rightBody reports whether a statement can have as many statements in its Body, and of these kinds.
func rightBody(s api.Stmt) bool {
	switch s.Op {
	case api.StIf, api.StRepeat:
		return true
	case api.StTxn:
		return len(s.Body) <= maxWrites && every(s.Body, func(x api.Stmt) bool { return x.Op == api.StWrite })
	}
	return len(s.Body) == 0
}

// rightExpr reports whether an expression of this depth is valid.
func rightExpr(x api.Expr, depth int) bool {
	count, known := Parts(x.Op)
	return known &&
		depth <= api.MaxNest &&
		len(x.X) == count &&
		rightValue(x) &&
		every(x.X, func(y api.Expr) bool { return rightExpr(y, depth+1) })
}

// rightValue reports whether N and S are what the kind of an expression requires.
func rightValue(x api.Expr) bool {
	switch x.Op {
	case api.ExNum:
		return x.S == "" && upTo(x.N, maxNum)
	case api.ExBool:
		return x.S == "" && upTo(x.N, 1)
	case api.ExText:
		return x.N == 0 && len(x.S) <= api.MaxText
	}
	return x.N == 0 && rightName(x.S, x.Op == api.ExName)
}

// rightName reports whether s is a name where one is needed, and empty elsewhere.
func rightName(s string, needed bool) bool {
	if needed {
		return lex.Name(s)
	}
	return s == ""
}

// upTo reports whether n is in the range from 0 to most.
func upTo(n, most int64) bool {
	return n >= 0 && n <= most
}

// every reports whether all elements of a list are right.
func every[T any](l []T, right func(T) bool) bool {
	return !slices.ContainsFunc(l, func(x T) bool { return !right(x) })
}
