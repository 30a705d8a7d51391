package undo_test

import (
	"math/rand"
	"reflect"
	"testing"

	"gantlet/api"
	"gantlet/undo"
)

func num(n int) api.Val { return api.Val{K: api.Int, N: n} }

func ref(n int) api.Val { return api.Val{K: api.Ref, N: 1<<20 + n} }

func old(r, f, n int) api.Old { return api.Old{Ref: ref(r), Field: f, V: num(n)} }

func log(t *testing.T, most int) *undo.Log {
	t.Helper()
	l, e := undo.New(most)
	if e != api.OK || l.Len() != 0 {
		t.Fatal(most, e)
	}
	return l
}

func TestPushPop(t *testing.T) { // P7.1, P7.4
	for _, most := range []int{-1, 0, api.MaxUndo + 1} {
		if l, e := undo.New(most); l != nil || e != api.ErrArg {
			t.Error(most, e)
		}
	}
	log(t, api.MaxUndo)
	log(t, 1)
	l := log(t, 2)
	if o, ok := l.Pop(); ok || o != (api.Old{}) {
		t.Error(o, ok)
	}
	a, b := old(1, 0, 5), api.Old{Ref: ref(1), Head: true, State: api.Shared}
	if l.Push(a) != api.OK || l.Push(b) != api.OK || l.Push(a) != api.ErrUndo || l.Len() != 2 {
		t.Error(l.All())
	}
	if o, ok := l.Pop(); !ok || o != b || l.Len() != 1 {
		t.Error(o, ok)
	}
	if l.Push(old(9, 9, 9)) != api.OK || l.Push(a) != api.ErrUndo {
		t.Error("there is room behind a Pop")
	}
	l.Pop()
	if o, ok := l.Pop(); !ok || o != a {
		t.Error(o, ok)
	}
	if _, ok := l.Pop(); ok {
		t.Error("none is left")
	}
}

func TestFirst(t *testing.T) { // P7.2
	l := log(t, 9)
	l.Push(api.Old{Ref: ref(1), Field: 2, V: num(9), Head: true})
	l.Push(old(1, 2, 5))
	l.Push(old(1, 2, 6))
	l.Push(old(1, 3, 7))
	l.Push(api.Old{Ref: ref(4), Field: -1, Head: true})
	for _, c := range []struct {
		r, f int
		v    api.Val
		ok   bool
	}{{1, 2, num(5), true}, {1, 3, num(7), true}, {2, 2, api.Val{}, false}, {1, 0, api.Val{}, false}, {4, -1, api.Val{}, false}} {
		if v, ok := l.First(ref(c.r), c.f); v != c.v || ok != c.ok {
			t.Error(c, v, ok)
		}
	}
}

func TestAllClearFork(t *testing.T) { // P7.2, P7.5
	l := log(t, 3)
	l.Push(old(1, 0, 5))
	l.Push(old(2, 0, 6))
	want := []api.Old{old(1, 0, 5), old(2, 0, 6)}
	if !reflect.DeepEqual(l.All(), want) {
		t.Error(l.All())
	}
	l.All()[0] = api.Old{}
	f := l.Fork()
	if !reflect.DeepEqual(f.All(), want) {
		t.Error(f.All())
	}
	f.Pop()
	f.Push(old(3, 3, 3))
	f.Push(old(3, 3, 3))
	if f.Push(old(3, 3, 3)) != api.ErrUndo || !reflect.DeepEqual(l.All(), want) {
		t.Error("a fork, and what it is of, are one")
	}
	if l.Clear() != 2 || l.Len() != 0 || len(l.All()) != 0 || l.Clear() != 0 || f.Len() != 3 {
		t.Error("Clear")
	}
	if l.Push(old(1, 1, 1)) != api.OK || l.Len() != 1 {
		t.Error("behind Clear")
	}
}

func TestNobodyMadeIt(t *testing.T) {
	for _, l := range []*undo.Log{nil, {}} {
		if l.Push(api.Old{}) != api.ErrNil || l.Len() != 0 || l.All() != nil || l.Clear() != 0 || l.Fork() != nil {
			t.Error("zeros")
		}
		if o, ok := l.Pop(); ok || o != (api.Old{}) {
			t.Error(o)
		}
		if v, ok := l.First(ref(1), 0); ok || v != (api.Val{}) {
			t.Error(v)
		}
	}
}

// P7.3, P7.4: fields that are written, each old value pushed ahead, are as at first when all is popped; First tells what they had.
func TestFromBehind(t *testing.T) {
	r := rand.New(rand.NewSource(5))
	for range 50 {
		l := log(t, 20)
		var fields, first [4]api.Val
		for i := range fields {
			fields[i] = num(r.Intn(9))
		}
		first = fields
		for range r.Intn(40) {
			f := r.Intn(4)
			if l.Push(api.Old{Ref: ref(1), Field: f, V: fields[f]}) == api.OK {
				fields[f] = num(r.Intn(9))
			}
			if l.Len() > 20 {
				t.Fatal(l.Len())
			}
		}
		for f := range first {
			if v, ok := l.First(ref(1), f); ok && v != first[f] || !ok && fields[f] != first[f] {
				t.Fatal(f, v, ok)
			}
		}
		for {
			o, ok := l.Pop()
			if !ok {
				break
			}
			fields[o.Field] = o.V
		}
		if fields != first {
			t.Fatal(fields, first)
		}
	}
}
