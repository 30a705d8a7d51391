package graph_test

import (
	"math/rand"
	"reflect"
	"testing"

	"gantlet/api"
	"gantlet/graph"
	"gantlet/value"
)

func num(n int) api.Val { return value.Number(n) }

// ref is a reference by its address.
func ref(n int) api.Val { return api.Val{K: api.Ref, N: 5<<20 + n} }

func object(n int, s api.State, owner int, f ...api.Val) api.Object {
	return api.Object{Ref: ref(n), Head: api.Head{Gen: 5, Fields: len(f), Mask: 1, State: s, Owner: owner}, F: f}
}

const (
	priv   = api.Private
	shared = api.Shared
)

func same(t *testing.T, what string, got []api.Val, want ...api.Val) {
	t.Helper()
	if !value.Same(got, want) {
		t.Error(what, got, want)
	}
}

func TestFind(t *testing.T) { // P16.1
	l := []api.Object{object(1, shared, 0, num(1)), object(2, priv, 3, num(2)), object(1, priv, 0, num(9)), {Ref: num(7), F: []api.Val{num(3)}}, {F: []api.Val{num(4)}}, {Ref: value.Nil(), F: []api.Val{num(5)}}}
	for _, c := range []struct {
		v    api.Val
		want int
	}{{ref(1), 0}, {ref(2), 1}, {num(7), 3}, {api.Val{}, 4}, {value.Nil(), 5}} {
		if o, ok := graph.Find(l, c.v); !ok || !reflect.DeepEqual(o, l[c.want]) {
			t.Error(c, o, ok)
		}
	}
	for _, v := range []api.Val{ref(3), num(1), {K: 9}} {
		if o, ok := graph.Find(l, v); ok || !reflect.DeepEqual(o, api.Object{}) {
			t.Error(v, o)
		}
	}
	o, _ := graph.Find(l, ref(1))
	o.F[0] = num(88)
	if l[0].F[0] != num(1) {
		t.Error("an answer is new memory")
	}
}

func TestClosure(t *testing.T) { // P16.1
	l := []api.Object{
		object(1, priv, 0, ref(2), num(3), ref(4)), object(2, priv, 1, ref(3), ref(1), value.Nil()), object(3, shared, 0, ref(6)),
		object(4, priv, 0, ref(5), ref(2), ref(77), num(5<<20+6)), object(5, priv, 0, ref(4)), object(6, priv, 0), object(7, api.Freed, 0, ref(6)), object(8, api.Dead, 0, ref(6)),
		{Ref: value.Nil(), Head: api.Head{State: priv}}, {Ref: num(5<<20 + 1), Head: api.Head{State: priv}}, {Head: api.Head{State: priv}},
	}
	same(t, "all", graph.Closure(l, ref(1)), ref(1), ref(2), ref(4), ref(5))
	same(t, "a ring", graph.Closure(l, ref(5)), ref(5), ref(4), ref(2), ref(1))
	same(t, "alone", graph.Closure(l, ref(6)), ref(6))
	for _, v := range []api.Val{ref(3), ref(7), ref(8), ref(99), value.Nil(), num(5<<20 + 1), {}, num(0)} {
		same(t, "none", graph.Closure(l, v))
	}
	a := []api.Object{object(1, priv, 0, ref(2)), object(2, shared, 0, ref(3)), object(3, priv, 0)}
	same(t, "example", graph.Closure(a, ref(1)), ref(1))
	same(t, "example", graph.Reach(a, ref(1)), ref(1), ref(2), ref(3))
	two := []api.Object{object(1, shared, 0), object(1, priv, 0, ref(2)), object(2, priv, 0)} // the first one counts
	same(t, "the first", graph.Closure(two, ref(1)))
	same(t, "no objects", graph.Closure(nil, ref(1)))
}

func TestReach(t *testing.T) { // P16.1
	l := []api.Object{object(1, shared, 0, ref(2), ref(3)), object(2, priv, 1, ref(4)), object(3, api.Freed, 0, ref(4), ref(1)), object(4, api.Dead, 0, value.Nil()), object(5, shared, 0), {Ref: value.Nil(), F: []api.Val{ref(5)}}, {Ref: num(7), F: []api.Val{ref(5)}}}
	same(t, "one", graph.Reach(l, ref(1)), ref(1), ref(2), ref(4), ref(3))
	same(t, "roots", graph.Reach(l, ref(4), num(7), value.Nil(), ref(9), ref(3), ref(4)), ref(4), ref(3), ref(1), ref(2))
	same(t, "none", graph.Reach(l))
	var chain []api.Object
	for n := 1; n <= 200000; n++ {
		chain = append(chain, object(n, priv, 0, ref(n+1)))
	}
	if n := len(graph.Reach(chain, ref(1))); n != 200000 {
		t.Error(n)
	}
}

func TestSound(t *testing.T) { // P16.2
	root := object(1, shared, 0, ref(2), value.Nil())
	l := []api.Object{root, object(2, shared, 0, ref(3)), object(3, shared, 0), object(4, priv, 1, ref(5)), object(5, shared, 0), object(6, shared, 9, ref(7)), object(7, priv, 0)}
	for _, c := range []struct {
		root api.Val
		regs [][]api.Val
		e    api.Errno
	}{
		{ref(1), nil, api.OK}, {ref(1), [][]api.Val{{ref(1), num(4)}, {ref(4), ref(3)}}, api.OK}, {ref(1), [][]api.Val{{ref(4)}}, api.ErrKind}, {ref(1), [][]api.Val{nil, nil, {num(0), ref(4)}}, api.ErrKind},
		{ref(1), [][]api.Val{{ref(6)}}, api.OK}, {ref(1), [][]api.Val{{}, {ref(6)}}, api.ErrKind}, {ref(6), nil, api.ErrKind}, {ref(6), [][]api.Val{{ref(7)}}, api.ErrKind}, {ref(4), [][]api.Val{nil, {ref(4)}}, api.ErrKind},
		{value.Nil(), [][]api.Val{{ref(99)}}, api.OK}, {ref(1), make([][]api.Val, 64), api.OK}, {ref(6), make([][]api.Val, 65), api.ErrRange},
	} {
		if e := graph.Sound(l, c.root, c.regs); e != c.e {
			t.Error(c, e)
		}
	}
}

func name(n int) api.Val { return api.Val{K: api.Ref, N: 1<<20 + n} }

var gone = api.Val{K: api.Ref, N: 1<<50 + 1}

func TestRename(t *testing.T) { // P16.3
	l := []api.Object{object(9, shared, 3, num(4), ref(7)), object(8, priv, 2, ref(66), ref(9), value.Nil()), object(7, api.Freed, 0, ref(7)), object(6, shared, 0), object(9, priv, 0)}
	in := []api.Val{ref(8), num(3), ref(55), {}, {K: 7, N: 1}, value.Nil(), {K: api.Ref, N: 3}, ref(9)}
	objs, roots := graph.Rename(l, in)
	same(t, "roots", roots, name(1), num(3), gone, api.Val{}, api.Val{K: 7, N: 1}, value.Nil(), gone, name(2))
	want := []api.Object{
		{Ref: name(1), Head: api.Head{Gen: 1, Fields: 3, Mask: 1, State: priv, Owner: 2}, F: []api.Val{gone, name(2), value.Nil()}},
		{Ref: name(2), Head: api.Head{Gen: 1, Fields: 2, Mask: 1, State: shared, Owner: 3}, F: []api.Val{num(4), name(3)}},
		{Ref: name(3), Head: api.Head{Gen: 1, Fields: 1, Mask: 1, State: api.Freed}, F: []api.Val{name(3)}},
	}
	if !reflect.DeepEqual(objs, want) {
		t.Error(objs)
	}
	if in[0] != ref(8) || l[1].F[1] != ref(9) {
		t.Error("what is handed in is changed")
	}
	if objs, roots := graph.Rename(l, nil); len(objs) != 0 || len(roots) != 0 {
		t.Error(objs, roots)
	}
}

func TestAlike(t *testing.T) { // P16.3
	a := []api.Object{object(1, shared, 0, ref(2), num(4)), object(2, priv, 1, value.Nil(), ref(99)), object(3, shared, 0)}
	b := []api.Object{object(20, shared, 7, value.Nil(), ref(44)), object(10, priv, 2, ref(20), num(4))}
	if !graph.Alike(a, []api.Val{ref(1), num(6)}, b, []api.Val{ref(10), num(6)}) {
		t.Error("they are")
	}
	b[0].Head.Gen = 77
	if !graph.Alike(a, []api.Val{ref(1)}, b, []api.Val{ref(10)}) {
		t.Error("generations aside")
	}
	for i, turn := range []func(l []api.Object){
		func(l []api.Object) { l[1].F[1] = num(5) }, func(l []api.Object) { l[1].F[0] = ref(10) }, func(l []api.Object) { l[0].F[1] = value.Nil() }, func(l []api.Object) { l[0].F[0] = ref(20) },
		func(l []api.Object) { l[0].Head.Mask = 3 }, func(l []api.Object) { l[0].Head.Fields = 3 }, func(l []api.Object) { l[0].Head.State = api.Freed }, func(l []api.Object) { l[0].F = l[0].F[:1] },
	} {
		c := []api.Object{object(20, shared, 7, value.Nil(), ref(44)), object(10, priv, 2, ref(20), num(4))}
		turn(c)
		if graph.Alike(a, []api.Val{ref(1)}, c, []api.Val{ref(10)}) {
			t.Error(i, "they are not")
		}
	}
	for _, r := range [][]api.Val{nil, {ref(10), ref(10)}, {ref(20)}, {num(1)}, {value.Nil()}} {
		if graph.Alike(a, []api.Val{ref(1)}, b, r) {
			t.Error(r, "they are not")
		}
	}
	if !graph.Alike(nil, nil, a, nil) || !graph.Alike(nil, []api.Val{ref(5)}, nil, []api.Val{ref(6)}) {
		t.Error("what is reached alone counts")
	}
}

// some is a row by chance, some of whose references are nobody's.
func some(r *rand.Rand) []api.Object {
	var l []api.Object
	for n := range 1 + r.Intn(7) {
		var f []api.Val
		for range r.Intn(4) {
			f = append(f, []api.Val{num(r.Intn(3)), value.Nil(), ref(1 + r.Intn(8)), ref(1 + r.Intn(8))}[r.Intn(4)])
		}
		l = append(l, object(n+1, []api.State{priv, priv, shared}[r.Intn(3)], r.Intn(2), f...))
	}
	return l
}

func TestWhatFollows(t *testing.T) { // P16.4, P16.5
	r := rand.New(rand.NewSource(12))
	for range 2000 {
		l := some(r)
		v := ref(1 + r.Intn(8))
		closure := graph.Closure(l, v)
		in := map[api.Val]bool{}
		for _, x := range graph.Reach(l, v) {
			in[x] = true
		}
		for _, x := range closure {
			if !in[x] {
				t.Fatal("part of what is reached", l, v)
			}
			for i := range l {
				if l[i].Ref == x {
					l[i].Head.State = shared
				}
			}
		}
		if len(graph.Closure(l, v)) != 0 {
			t.Fatal("closed", l, v)
		}
		roots := []api.Val{v, ref(1 + r.Intn(8)), num(1)}
		objs, named := graph.Rename(l, roots)
		again, twice := graph.Rename(objs, named)
		if len(objs) > 0 && !reflect.DeepEqual(objs, again) || !value.Same(named, twice) || !graph.Alike(l, roots, objs, named) {
			t.Fatal("names aside", l, roots)
		}
	}
}
