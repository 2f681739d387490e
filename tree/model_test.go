package tree_test

import (
	"reflect"
	"regexp"
	"slices"
	"strings"
	"testing"

	"flotsam/api"
	"flotsam/lex"
	"flotsam/tree"
)

// named describes names in another way. Which words are keywords is for lex to say.
var named = regexp.MustCompile(`^[a-z][a-z0-9_]{0,7}$`)

func isName(s string) bool { return named.MatchString(s) && !lex.Key(s) }

// depthOf is the depth of an expression, from its operands on, and whether all in it is valid but for depth.
func depthOf(x api.Expr) (int, bool) {
	var nOK, sOK bool
	switch x.Op {
	case api.ExNum:
		nOK, sOK = x.N >= 0 && x.N <= 1e12, x.S == ""
	case api.ExText:
		nOK, sOK = x.N == 0, len(x.S) <= 64
	case api.ExBool:
		nOK, sOK = x.N == 0 || x.N == 1, x.S == ""
	case api.ExName:
		nOK, sOK = x.N == 0, isName(x.S)
	default:
		nOK, sOK = x.N == 0, x.S == ""
	}
	ok := nOK && sOK && x.Op >= 1 && x.Op <= 14
	ok = ok && len(x.X) == parts[x.Op]
	deepest := 0
	for _, y := range x.X {
		d, fine := depthOf(y)
		deepest, ok = max(deepest, d), ok && fine
	}
	return deepest + 1, ok
}

// validExpr is the chapter's definition.
func validExpr(x api.Expr) bool {
	d, ok := depthOf(x)
	return ok && d <= 8
}

// validStmt is the chapter's definition, sentence by sentence.
func validStmt(s api.Stmt, d int) bool {
	if s.Op < 1 || s.Op > 18 || d > 8 || len(s.E) != exprs[s.Op] {
		return false
	}
	for _, x := range s.E {
		if !validExpr(x) {
			return false
		}
	}
	word := strings.Fields("create mkdir write append truncate rename unlink fsync fdatasync syncdir barrier let if repeat call txn replay assert")[s.Op-1]
	in := func(l string) bool { return slices.Contains(strings.Fields(l), word) }
	switch {
	case in("let call") && !isName(s.S), !in("let call") && s.S != "":
		return false
	case s.N < 0, in("repeat") && s.N > 16, !in("repeat") && s.N != 0:
		return false
	case s.Commit && !in("txn"):
		return false
	case len(s.Body) > 0 && !in("if repeat txn"), len(s.Else) > 0 && !in("if"):
		return false
	case in("txn") && len(s.Body) > 8:
		return false
	}
	for _, x := range slices.Concat(s.Body, s.Else) {
		if in("txn") && x.Op != 3 || !validStmt(x, d+1) {
			return false
		}
	}
	return true
}

// size is the number of statements of a block, by the definition.
func size(l []api.Stmt) int {
	n := len(l)
	for _, s := range l {
		n += size(s.Body) + size(s.Else)
	}
	return n
}

// valid is the chapter's definition of what Right reports.
func valid(p api.Program) bool {
	total := size(p.Main) + size(p.Recover)
	ok := len(p.Procs) <= 16 && len(p.Oracles) <= 16
	l := slices.Concat(p.Main, p.Recover)
	for _, x := range p.Procs {
		total += size(x.Body)
		ok = ok && isName(x.Name)
		l = append(l, x.Body...)
	}
	for _, x := range p.Oracles {
		ok = ok && isName(x.Name) && validExpr(x.E)
	}
	for _, s := range l {
		ok = ok && validStmt(s, 1)
	}
	return ok && total <= 256
}

// dice makes random programs. One in so many parts is odd; if that is 0, none is.
type dice struct {
	seed uint64
	odd  int
}

// next is a number from 0 to n - 1.
func (d *dice) next(n int) int {
	d.seed = d.seed*6364136223846793005 + 1442695040888963407
	return int(d.seed>>33) % n
}

// off reports whether the next part is to be odd.
func (d *dice) off() bool { return d.odd > 0 && d.next(d.odd) == 0 }

func (d *dice) name() string {
	if d.off() {
		return []string{"", "if", "abcdefghi", "A", "9", "a b"}[d.next(6)]
	}
	return []string{"a", "b", "x_9", "abcdefgh"}[d.next(4)]
}

func (d *dice) number(most int64) int64 {
	if d.off() {
		return []int64{-1, most + 1, 1 << 62, -1 << 63}[d.next(4)]
	}
	return []int64{0, 1, most, most / 2}[d.next(4)] % (most + 1)
}

func (d *dice) expr(deep int) api.Expr {
	op := 1 + d.next(14)
	if deep <= 1 {
		op = 1 + d.next(4)
	}
	if d.off() {
		op = d.next(20) - 2
	}
	x := api.Expr{Op: op}
	switch {
	case op == api.ExNum:
		x.N = d.number(1e12)
	case op == api.ExBool:
		x.N = d.number(1)
	case op == api.ExText:
		x.S = strings.Repeat("x", []int{0, 1, 63, 64}[d.next(4)])
	case op == api.ExName:
		x.S = d.name()
	case d.off():
		x.S = "a"
	}
	count := 0
	if op >= 1 && op <= 14 {
		count = parts[op]
	}
	if d.off() {
		count = d.next(4)
	}
	for range count {
		x.X = append(x.X, d.expr(deep-1-d.next(2)))
	}
	return x
}

func (d *dice) stmt(deep int) api.Stmt {
	op := 1 + d.next(18)
	if d.off() {
		op = d.next(24) - 2
	}
	s := api.Stmt{Op: op, Commit: op == txn && d.next(2) == 0 || d.off()}
	if op == let || op == call || d.off() {
		s.S = d.name()
	}
	if op == repeat || d.off() {
		s.N = d.number(16)
	}
	count := 0
	if op >= 1 && op <= 18 {
		count = exprs[op]
	}
	if d.off() {
		count = d.next(5)
	}
	for range count {
		s.E = append(s.E, d.expr(1+d.next(9)))
	}
	if deep > 1 && (op == ifs || op == repeat || d.off()) {
		s.Body = d.block(deep - 1)
	}
	if deep > 1 && (op == ifs || d.off()) {
		s.Else = d.block(deep - 1)
	}
	if deep > 1 && op == txn {
		for range d.next(9) {
			w := stmt(write)
			w.E[2] = d.expr(3)
			s.Body = append(s.Body, w)
		}
	}
	return s
}

func (d *dice) block(deep int) []api.Stmt {
	var l []api.Stmt
	for range d.next(4) {
		l = append(l, d.stmt(deep))
	}
	return l
}

func (d *dice) program() api.Program {
	deep := 8
	if d.off() {
		deep = 9
	}
	p := api.Program{Main: d.block(deep), Recover: d.block(deep)}
	for range d.next(4) {
		p.Procs = append(p.Procs, api.Proc{Name: d.name(), Body: d.block(deep)})
	}
	for range d.next(4) {
		p.Oracles = append(p.Oracles, api.Oracle{Name: d.name(), E: d.expr(1 + d.next(9))})
	}
	return p
}

// P1602, P1603, P1604: all calls agree with the definitions for programs of all kinds.
func TestRandomPrograms(t *testing.T) {
	for _, odd := range []int{0, 4000, 500, 30} {
		d := &dice{seed: 16, odd: odd}
		good, bad := 0, 0
		for range 3000 {
			p := d.program()
			if valid(p) {
				good++
			} else {
				bad++
			}
			if got := tree.Right(p); got != valid(p) {
				t.Fatalf("Right(%s) = %v", short(p), got)
			}
			if tree.Count(p.Main) != size(p.Main) || tree.Count(p.Recover) != size(p.Recover) {
				t.Fatalf("Count of the blocks of %s is wrong", short(p))
			}
			c := tree.Clone(p)
			if !reflect.DeepEqual(c, p) || !tree.Same(c, p) {
				t.Fatalf("Clone(%s) = %s", short(p), short(c))
			}
			q := d.program()
			if tree.Same(p, q) != reflect.DeepEqual(p, q) || tree.Right(c) != valid(p) {
				t.Fatalf("Same(%s, %s) = %v", short(p), short(q), tree.Same(p, q))
			}
			listed(t, c)
		}
		if odd < 500 && odd > 0 && bad < 1000 || odd != 30 && good < 1000 || odd == 500 && bad < 300 {
			t.Errorf("%d programs are valid, and %d are not", good, bad)
		}
	}
}
