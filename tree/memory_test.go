package tree_test

import (
	"reflect"
	"slices"
	"testing"
	"unsafe"

	"flotsam/api"
	"flotsam/tree"
)

// span is the memory of one list, with the capacity behind it, or of one text.
type span struct{ from, to uintptr }

// spans finds the memory of a value.
func spans(values ...any) []span {
	var l []span
	for _, x := range values {
		leaves(reflect.ValueOf(x), func(v reflect.Value) {
			switch v.Kind() {
			case reflect.Slice:
				from := uintptr(v.UnsafePointer())
				l = append(l, span{from, from + uintptr(v.Cap())*v.Type().Elem().Size()})
			case reflect.String:
				from := uintptr(unsafe.Pointer(unsafe.StringData(v.String())))
				l = append(l, span{from, from + uintptr(v.Len())})
			}
		})
	}
	return slices.DeleteFunc(l, func(x span) bool { return x.from == x.to })
}

// apart checks that no two of the spans have memory in common.
func apart(t *testing.T, what string, l []span) {
	t.Helper()
	slices.SortFunc(l, func(a, b span) int {
		if a.from < b.from {
			return -1
		}
		return 1
	})
	for i := range l[1:] {
		if l[i].to > l[i+1].from {
			t.Errorf("%s: memory is shared", what)
			return
		}
	}
}

// outside checks that results have no memory of an argument, whose own parts can share some.
func outside(t *testing.T, what string, argument any, results ...any) {
	t.Helper()
	for _, a := range spans(argument) {
		for _, b := range spans(results...) {
			if a.from < b.to && b.from < a.to {
				t.Errorf("%s: memory of the argument is shared", what)
				return
			}
		}
	}
}

// P1601: a copy shares nothing with the original, with another copy, or within itself.
func TestCloneMemory(t *testing.T) {
	same := block(stmt(let))
	for _, p := range []api.Program{rich(), {Main: same, Recover: same, Procs: []api.Proc{{Name: "p", Body: same}, {Name: "p", Body: block(with(stmt(ifs), same, same))}}}} {
		a, b := tree.Clone(p), tree.Clone(p)
		apart(t, "Clone", spans(a, b))
		outside(t, "Clone", p, a, b)
		outside(t, "Clone of a copy", a, tree.Clone(a))
	}
}

// P1601: each statement that All returns has blocks of its own, although it is within others.
func TestAllMemory(t *testing.T) {
	for _, p := range []api.Program{rich(), {Main: around(7, block(stmt(let), stmt(write)), outers[3])}} {
		a, b := tree.All(p), tree.All(p)
		apart(t, "All", spans(a, b))
		outside(t, "All", p, a, b)
	}
	// A change of one statement is seen in no other.
	l := tree.All(api.Program{Main: around(3, block(stmt(let)), outers[0])})
	l[0].Body[0].Body[0].Body[0].S = "a"
	l[1].Body[0].Body[0].S = "b"
	l[2].Body[0].S = "c"
	l[3].S = "d"
	if x, y, z := l[0].Body[0].Body[0].Body[0].S, l[1].Body[0].Body[0].S, l[2].Body[0].S; x != "a" || y != "b" || z != "c" {
		t.Errorf("changed to a b c, but %s %s %s", x, y, z)
	}
}

// roomy puts an element behind every list of a program.
func roomy(p api.Program) api.Program {
	leaves(reflect.ValueOf(&p).Elem(), func(v reflect.Value) {
		if v.Kind() != reflect.Slice {
			return
		}
		n := v.Len()
		l := reflect.MakeSlice(v.Type(), n+1, n+1)
		reflect.Copy(l, v)
		leaves(l.Index(n), func(v reflect.Value) {
			if v.Kind() == reflect.String {
				v.SetString("behind")
			}
		})
		v.Set(l.Slice(0, n))
	})
	return p
}

// P1601: arguments are not modified, nor is the capacity behind them.
func TestArgumentsStay(t *testing.T) {
	p, q := roomy(rich()), roomy(rich())
	tree.Right(p)
	tree.All(p)
	tree.Count(p.Main)
	tree.Count(p.Procs[0].Body)
	tree.Same(p, q)
	c := tree.Clone(p)
	leaves(reflect.ValueOf(&c).Elem(), func(v reflect.Value) {
		if v.Kind() == reflect.Slice {
			v.Set(reflect.Append(v, reflect.Zero(v.Type().Elem())))
		}
	})
	behind := 0
	for _, x := range []*api.Program{&p, &q} {
		leaves(reflect.ValueOf(x).Elem(), func(v reflect.Value) {
			if v.Kind() == reflect.Slice {
				v.SetLen(v.Cap())
				behind++
			}
		})
	}
	if !reflect.DeepEqual(p, q) || behind == 0 {
		t.Error("an argument has been modified")
	}
}

// answers are the results of all calls for a program.
func answers(p api.Program) []any {
	return []any{tree.Right(p), tree.All(p), tree.Count(p.Main), tree.Same(p, rich()), tree.Clone(p)}
}

// P1601: a result depends only on the arguments, not on earlier calls or on what became of earlier results.
func TestPure(t *testing.T) {
	programs := []api.Program{rich(), {}, {Main: block(stmt(barrier))}, {Main: block(with(stmt(txn), block(stmt(let)), nil))}}
	for _, p := range programs {
		first := answers(p)
		for _, between := range programs {
			answers(between)
			spoilt := tree.Clone(p)
			leaves(reflect.ValueOf(&spoilt).Elem(), func(v reflect.Value) { v.SetZero() })
			if again := answers(p); !reflect.DeepEqual(first, again) {
				t.Errorf("%s: first %s, and then %s", short(p), short(first), short(again))
			}
		}
	}
}
