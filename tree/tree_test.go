package tree_test

import (
	"reflect"
	"runtime/debug"
	"slices"
	"testing"

	"flotsam/api"
	"flotsam/tree"
)

// rich has all kinds of parts, each made for it alone. It is not valid: some of its fields have no meaning.
func rich() api.Program {
	num := func(n int64) api.Expr { return api.Expr{Op: api.ExNum, N: n} }
	text := func(s string) api.Expr { return api.Expr{Op: api.ExText, S: s} }
	sum := api.Expr{Op: api.ExAdd, X: []api.Expr{num(1), {Op: api.ExSize, X: []api.Expr{text("/a")}}}}
	w := func(path string) api.Stmt {
		return api.Stmt{Op: write, E: []api.Expr{text(path), num(0), text("xy")}}
	}
	return api.Program{
		Procs: []api.Proc{
			{Name: "p", Body: []api.Stmt{{Op: barrier}, {Op: txn, E: []api.Expr{text("/j")}, Body: []api.Stmt{w("/a"), w("/b")}, Commit: true}}},
			{Name: "empty"},
			{Name: "odd", Body: []api.Stmt{{Op: -5, S: "x", N: 7, E: []api.Expr{{Op: 99, N: -1, S: "y", X: []api.Expr{num(3)}}}, Body: []api.Stmt{{N: 1}}, Else: []api.Stmt{{N: 2}}, Commit: true}}},
		},
		Main: []api.Stmt{
			{Op: let, S: "n", E: []api.Expr{sum}},
			{Op: ifs, E: []api.Expr{{Op: api.ExBool, N: 1}}, Body: []api.Stmt{{Op: repeat, N: 16, Body: []api.Stmt{{Op: call, S: "p"}}}, {Op: barrier}}, Else: []api.Stmt{w("/c"), {Op: barrier}}},
			w("/d"),
		},
		Recover: []api.Stmt{{Op: api.StReplay, E: []api.Expr{text("/j")}}, {Op: api.StAssert, E: []api.Expr{{Op: api.ExName, S: "v"}}}},
		Oracles: []api.Oracle{{Name: "o", E: api.Expr{Op: api.ExNot, X: []api.Expr{{Op: api.ExExists, X: []api.Expr{text("/a")}}}}}, {Name: "q", E: num(2)}},
	}
}

// numbered counts the statements of a block by the definition, and gives each its number.
func numbered(l []api.Stmt, next int) int {
	for i := range l {
		l[i].N = int64(next)
		next = numbered(l[i].Else, numbered(l[i].Body, next+1))
	}
	return next
}

// label gives all statements of a program their numbers, and returns how many there are.
func label(p api.Program) int {
	next := 0
	for _, x := range p.Procs {
		next = numbered(x.Body, next)
	}
	return numbered(p.Recover, numbered(p.Main, next))
}

// collect has the statements of a block by their numbers.
func collect(l []api.Stmt, into []api.Stmt) {
	for _, s := range l {
		into[s.N] = s
		collect(s.Body, into)
		collect(s.Else, into)
	}
}

// listed checks that All returns the statements of a program, each whole, by their numbers.
func listed(t *testing.T, p api.Program) {
	t.Helper()
	want := make([]api.Stmt, label(p))
	for _, x := range p.Procs {
		collect(x.Body, want)
	}
	collect(p.Main, want)
	collect(p.Recover, want)
	if got := tree.All(p); len(got) != len(want) || len(want) > 0 && !reflect.DeepEqual(got, want) {
		t.Errorf("All(%s) = %s", short(p), short(got))
	}
}

// P1603: the order of statements: procedures, Main, Recover; each before its Body and that before its Else.
func TestAll(t *testing.T) {
	listed(t, api.Program{})
	listed(t, rich())
	listed(t, api.Program{Main: block(stmt(barrier))})
	listed(t, api.Program{Recover: block(stmt(let)), Main: block(stmt(call)), Procs: []api.Proc{{Name: "z", Body: block(stmt(write))}, {Name: "a", Body: block(stmt(txn))}}})
	listed(t, api.Program{Oracles: rich().Oracles})
	var ops []int
	for _, s := range tree.All(rich()) {
		ops = append(ops, s.Op)
	}
	want := []int{barrier, txn, write, write, -5, 0, 0, let, ifs, repeat, call, barrier, write, barrier, write, api.StReplay, api.StAssert}
	if !slices.Equal(ops, want) {
		t.Errorf("All has the kinds %v, want %v", ops, want)
	}
}

// P1603: programs that have too much to be valid have all their statements, too.
func TestAllOfInvalid(t *testing.T) {
	for _, outer := range outers {
		listed(t, api.Program{Main: around(50, block(stmt(txn), stmt(let)), outer)})
	}
	many := func(n int) []api.Stmt { return slices.Repeat(block(stmt(barrier)), n) }
	listed(t, api.Program{Main: many(1000), Recover: many(300), Procs: []api.Proc{{Body: many(500)}}})
	procs := make([]api.Proc, 40)
	for i := range procs {
		procs[i].Body = block(with(api.Stmt{Op: -5}, many(i), many(2)))
	}
	listed(t, api.Program{Procs: procs, Main: many(1)})
}

// P1603: Count adds what is in Body and Else, for every kind of statement.
func TestCount(t *testing.T) {
	p := rich()
	for _, c := range []struct {
		l    []api.Stmt
		want int
	}{
		{nil, 0},
		{block(), 0},
		{block(stmt(barrier)), 1},
		{block(with(stmt(ifs), block(stmt(barrier)), nil)), 2},
		{block(with(stmt(ifs), nil, block(stmt(barrier)))), 2},
		{block(with(stmt(barrier), block(stmt(let), stmt(let)), block(api.Stmt{Op: 99}))), 4},
		{slices.Repeat(block(stmt(write)), 1000), 1000},
		{p.Procs[0].Body, 4},
		{p.Procs[1].Body, 0},
		{p.Procs[2].Body, 3},
		{p.Main, 8},
		{p.Recover, 2},
	} {
		if got := tree.Count(c.l); got != c.want {
			t.Errorf("Count(%s) = %d, want %d", short(c.l), got, c.want)
		}
	}
	twice := block(stmt(barrier))
	for range 15 {
		twice = block(with(stmt(ifs), twice, twice))
	}
	if got := tree.Count(twice); got != 1<<16-1 {
		t.Errorf("Count = %d of a block that is in many places", got)
	}
}

// The example of the chapter: if x { barrier; }
func TestExample(t *testing.T) {
	x := api.Expr{Op: api.ExName, S: "x"}
	l := []api.Stmt{{Op: ifs, E: []api.Expr{x}, Body: []api.Stmt{{Op: barrier}}}}
	if got := tree.Count(l); got != 2 {
		t.Errorf("Count = %d", got)
	}
}

// leaves finds all numbers, texts, truths and lists of a value that can be set.
func leaves(v reflect.Value, visit func(v reflect.Value)) {
	switch v.Kind() {
	case reflect.Struct:
		for i := range v.NumField() {
			leaves(v.Field(i), visit)
		}
		return
	case reflect.Slice:
		for i := range v.Len() {
			leaves(v.Index(i), visit)
		}
	}
	visit(v)
}

// changes are the ways to change one leaf, each to something else.
func changes(v reflect.Value) []func() {
	switch v.Kind() {
	case reflect.Bool:
		return []func(){func() { v.SetBool(!v.Bool()) }}
	case reflect.Int, reflect.Int64:
		n := v.Int()
		return []func(){func() { v.SetInt(n + 1) }, func() { v.SetInt(n - 1) }, func() { v.SetInt(^n) }, func() { v.SetInt(n + 1<<32) }}
	case reflect.String:
		s := v.String()
		l := []func(){func() { v.SetString(s + "x") }, func() { v.SetString("x" + s + "\x00") }}
		if s != "" {
			l = append(l, func() { v.SetString("") }, func() { v.SetString(s[1:]) }, func() { v.SetString(s[:len(s)-1] + "A") })
		}
		return l
	}
	n := v.Len()
	l := []func(){func() { v.Set(reflect.Append(v, reflect.Zero(v.Type().Elem()))) }}
	if n > 0 {
		l = append(l, func() { v.SetZero() }, func() { v.SetLen(n - 1) }, func() { v.Set(v.Slice(1, n)) })
	}
	return l
}

// changed calls use for every program that make makes with one leaf changed, and returns how many these are.
func changed(make func() api.Program, use func(p *api.Program, change func())) int {
	total := 0
	for leaf, done := 0, false; !done; leaf++ {
		done = true
		for way, more := 0, true; more; way++ {
			p, i := make(), 0
			more = false
			var change func()
			leaves(reflect.ValueOf(&p).Elem(), func(v reflect.Value) {
				if i == leaf {
					if all := changes(v); way < len(all) {
						change, more, done = all[way], true, false
					}
				}
				i++
			})
			if change != nil {
				use(&p, change)
				total++
			}
		}
	}
	return total
}

// P1604: programs are the same if all their parts are, and not if any single one differs.
func TestSame(t *testing.T) {
	if !tree.Same(rich(), rich()) || !tree.Same(api.Program{}, api.Program{}) {
		t.Error("equal programs are not the same")
	}
	n := changed(rich, func(p *api.Program, change func()) {
		change()
		if tree.Same(*p, rich()) || tree.Same(rich(), *p) || !tree.Same(*p, *p) {
			t.Errorf("Same takes %s as %s", short(*p), short(rich()))
		}
	})
	if n < 500 {
		t.Errorf("only %d changes", n)
	}
}

// P1604: parts in another order, or in another place, are not the same.
func TestSameInPlace(t *testing.T) {
	a, b := stmt(write), stmt(let)
	x, y := expr(api.ExNum), expr(api.ExText)
	all := []api.Program{
		{Main: block(a, b)},
		{Main: block(b, a)},
		{Recover: block(a, b)},
		{Main: block(a), Recover: block(b)},
		{Procs: []api.Proc{{Body: block(a, b)}}},
		{Procs: []api.Proc{{Body: block(a)}, {Body: block(b)}}},
		{Procs: []api.Proc{{Body: block(a, b)}, {}}},
		{Procs: []api.Proc{{}, {Body: block(a, b)}}},
		{Main: block(with(a, block(b), nil))},
		{Main: block(with(a, nil, block(b)))},
		{Main: block(with(a, block(a), block(b)))},
		{Main: block(with(a, block(b), block(a)))},
		{Main: block(with(b, block(a), nil))},
		{Main: block(with(a, block(a), nil), b)},
		{Main: block(a, with(b, block(a), nil))},
		{Main: block(with(a, block(with(b, block(a), nil)), nil))},
		{Main: block(api.Stmt{E: []api.Expr{x, y}})},
		{Main: block(api.Stmt{E: []api.Expr{y, x}})},
		{Main: block(api.Stmt{E: []api.Expr{x}}, api.Stmt{E: []api.Expr{y}})},
		{Main: block(api.Stmt{E: []api.Expr{{Op: 9, X: []api.Expr{x, y}}}})},
		{Main: block(api.Stmt{E: []api.Expr{{Op: 9, X: []api.Expr{y, x}}}})},
		{Oracles: []api.Oracle{{E: x}, {E: y}}},
		{Oracles: []api.Oracle{{E: y}, {E: x}}},
		{Oracles: []api.Oracle{{Name: "x"}, {Name: "y"}}},
		{Procs: []api.Proc{{Name: "x"}, {Name: "y"}}},
		{Procs: []api.Proc{{Name: "y"}, {Name: "x"}}},
		{},
	}
	for i, p := range all {
		for k, q := range all {
			if got := tree.Same(p, q); got != (i == k) {
				t.Errorf("Same(%s, %s) = %v", short(p), short(q), got)
			}
		}
	}
}

// filled puts empty lists where a value has nil, or nil where it has empty ones.
func filled(v reflect.Value, empty bool) {
	leaves(v, func(v reflect.Value) {
		if v.Kind() == reflect.Slice && v.Len() == 0 {
			v.SetZero()
			if empty {
				v.Set(reflect.MakeSlice(v.Type(), 0, 3))
			}
		}
	})
}

// P1604: nil and empty lists are equal, for the other calls too.
func TestNilAndEmpty(t *testing.T) {
	for _, make := range []func() api.Program{rich, func() api.Program { return api.Program{} }, func() api.Program { return places(stmt(ifs))[9] }} {
		a, b := make(), make()
		filled(reflect.ValueOf(&a).Elem(), false)
		filled(reflect.ValueOf(&b).Elem(), true)
		for _, p := range []api.Program{tree.Clone(a), tree.Clone(b), a, b} {
			if !tree.Same(a, p) || !tree.Same(p, a) || !tree.Same(b, p) || !tree.Same(p, b) {
				t.Errorf("nil and empty lists are different in %s", short(p))
			}
			if tree.Right(p) != tree.Right(a) || tree.Count(p.Main) != tree.Count(a.Main) || len(tree.All(p)) != len(tree.All(a)) {
				t.Errorf("nil and empty lists are different in %s", short(p))
			}
		}
	}
}

// P1604: a copy is equal, and a change of it or of the original leaves the other one as it was.
func TestClone(t *testing.T) {
	for _, p := range []api.Program{{}, rich(), {Procs: []api.Proc{{}}, Oracles: []api.Oracle{{}}}, {Main: block(api.Stmt{Op: 99})}} {
		if c := tree.Clone(p); !reflect.DeepEqual(c, p) || !tree.Same(c, p) {
			t.Errorf("Clone(%s) = %s", short(p), short(c))
		}
	}
	changed(rich, func(p *api.Program, change func()) {
		c := tree.Clone(*p)
		change()
		if !reflect.DeepEqual(c, rich()) {
			t.Errorf("a copy has become %s", short(c))
		}
	})
	var original api.Program
	copied := func() api.Program {
		original = rich()
		return tree.Clone(original)
	}
	changed(copied, func(_ *api.Program, change func()) {
		change()
		if !reflect.DeepEqual(original, rich()) {
			t.Errorf("the original has become %s", short(original))
		}
	})
}

// P1601: what is nested more deeply than calls can be is counted, compared and copied.
func TestVeryDeep(t *testing.T) {
	defer debug.SetMaxStack(debug.SetMaxStack(1 << 20))
	const depth = 100000
	deep := expr(api.ExName)
	for range depth {
		deep = api.Expr{Op: api.ExAdd, X: []api.Expr{expr(api.ExNum), deep}}
	}
	for i, outer := range outers {
		p := api.Program{Main: around(depth, block(stmt(let)), outer), Recover: []api.Stmt{{Op: api.StAssert, E: []api.Expr{deep}}}, Oracles: []api.Oracle{{Name: "o", E: deep}}}
		c := tree.Clone(p)
		if n := tree.Count(p.Main); n != tree.Count(c.Main) || n != 1+depth*tree.Count(block(outer(nil))) {
			t.Errorf("Count = %d of outer %d", n, i)
		}
		if !tree.Same(p, c) || tree.Right(p) {
			t.Errorf("Same or Right is wrong of outer %d", i)
		}
		innermost := &c.Main
		for len(*innermost) > 0 && len((*innermost)[0].Body)+len((*innermost)[0].Else) > 0 {
			s := &(*innermost)[0]
			innermost = &s.Body
			if len(s.Else) > 0 {
				innermost = &s.Else
			}
		}
		(*innermost)[0].S = "other"
		if tree.Same(p, c) || tree.Same(c, p) || !tree.Same(c, c) {
			t.Errorf("Same misses what is innermost in outer %d", i)
		}
	}
}
