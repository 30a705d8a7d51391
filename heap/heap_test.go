package heap_test

import (
	"math/rand"
	"reflect"
	"testing"

	"gantlet/api"
	"gantlet/heap"
	"gantlet/value"
)

func made(t *testing.T, words int) *heap.Heap {
	t.Helper()
	h, e := heap.New(words)
	if e != api.OK || h == nil {
		t.Fatal(words, e)
	}
	return h
}

func ref(gen, addr int) api.Val {
	v, _ := value.Of(gen, addr)
	return v
}

func num(n int) api.Val { return value.Number(n) }

func TestNew(t *testing.T) { // P2.1
	for _, words := range []int{-1, 0, 16, api.MaxWords + 1} {
		if h, e := heap.New(words); e != api.ErrArg || h != nil {
			t.Error(words, h, e)
		}
	}
	made(t, api.MaxWords)
	h := made(t, 17)
	if h.Root() != ref(1, 1) || h.Used() != 17 {
		t.Error(h.Root(), h.Used())
	}
	if head, ok := h.Head(h.Root()); !ok || head != (api.Head{Gen: 1, Fields: 16, Mask: 255, State: api.Shared}) {
		t.Error(head, ok)
	}
	for f := range 16 {
		want := num(0)
		if f < 8 {
			want = value.Nil()
		}
		if v, e := h.Load(h.Root(), f); e != api.OK || v != want {
			t.Error(f, v, e)
		}
	}
}

func TestAlloc(t *testing.T) { // P2.1
	h := made(t, 40)
	for _, c := range [][3]int{{0, 0, 0}, {-1, 0, 0}, {17, 0, 0}, {2, -1, 0}, {2, 4, 0}, {16, 1 << 16, 0}, {1, 0, -1}, {1, 0, 64}} {
		if v, e := h.Alloc(c[0], c[1], c[2]); e != api.ErrArg || v != (api.Val{}) {
			t.Error(c, v, e)
		}
	}
	a, e := h.Alloc(2, 1, 0)
	if e != api.OK || a != ref(1, 18) || h.Used() != 20 {
		t.Fatal(a, e, h.Used())
	}
	if head, ok := h.Head(a); !ok || head != (api.Head{Gen: 1, Fields: 2, Mask: 1, State: api.Private}) {
		t.Error(head, ok)
	}
	h.Store(a, 1, num(9))
	h.Release(a)
	b, e := h.Alloc(2, 0, 3)
	if e != api.OK || b != ref(2, 18) || h.Used() != 20 {
		t.Fatal(b, e)
	}
	if head, _ := h.Head(b); head != (api.Head{Gen: 2, Fields: 2, State: api.Private, Owner: 3}) {
		t.Error(head)
	}
	for f := range 2 { // nothing of the object that was there ahead
		if v, _ := h.Load(b, f); v != num(0) {
			t.Error(f, v)
		}
	}
	if c, e := h.Alloc(16, 1<<16-1, 63); e != api.OK || c != ref(1, 21) || h.Used() != 37 {
		t.Error(c, e, h.Used())
	}
	if _, e := h.Alloc(3, 0, 0); e != api.ErrHeap || h.Used() != 37 {
		t.Error(e)
	}
	if c, e := h.Alloc(2, 0, 0); e != api.OK || c != ref(1, 38) || h.Used() != 40 {
		t.Error(c, e)
	}
	if _, e := h.Alloc(1, 0, 0); e != api.ErrHeap {
		t.Error(e)
	}
}

func TestReleasedLastIsUsedFirst(t *testing.T) { // P2.1
	h := made(t, 100)
	a, _ := h.Alloc(2, 0, 0)
	b, _ := h.Alloc(2, 0, 0)
	c, _ := h.Alloc(3, 0, 0)
	h.Release(a)
	h.Release(b)
	h.Release(c)
	for i, want := range []api.Val{ref(2, value.Addr(b)), ref(2, value.Addr(a)), ref(1, 28)} {
		if v, e := h.Alloc(2, 0, 0); e != api.OK || v != want {
			t.Error(i, v, e)
		}
	}
	if v, e := h.Alloc(3, 0, 0); e != api.OK || v != ref(2, value.Addr(c)) {
		t.Error(v, e)
	}
}

// errors of references: a heap in which the object at 18 is of generation 2.
func wrongRefs() map[api.Val]api.Errno {
	return map[api.Val]api.Errno{
		{}: api.ErrKind, num(18): api.ErrKind, {K: api.Ref, N: 7}: api.ErrKind, {K: api.Ref, N: -1}: api.ErrKind,
		value.Nil(): api.ErrDeref,
		ref(1, 18):  api.ErrFreed, ref(3, 18): api.ErrFreed, ref(1, 19): api.ErrFreed, ref(1, 2): api.ErrFreed, ref(2, 1): api.ErrFreed,
		ref(1, 21): api.ErrFreed, ref(1, api.MaxAddr): api.ErrFreed, ref(api.MaxGen, 18): api.ErrFreed,
	}
}

func TestErrorsOfReferences(t *testing.T) { // P2.2, P2.3
	h := made(t, 40)
	a, _ := h.Alloc(2, 1, 0)
	if e := h.Release(a); e != api.OK {
		t.Fatal(e)
	}
	if e := h.Release(a); e != api.ErrFreed {
		t.Error(e)
	}
	h.Alloc(2, 1, 0)
	before := h.Objects()
	for v, want := range wrongRefs() {
		if e := h.Release(v); e != want {
			t.Error("Release", v, e)
		}
		if head, ok := h.Head(v); ok || head != (api.Head{}) {
			t.Error("Head", v, head)
		}
		if x, e := h.Load(v, 99); e != want || x != (api.Val{}) {
			t.Error("Load", v, x, e)
		}
		if e := h.Store(v, 99, api.Val{}); e != want {
			t.Error("Store", v, e)
		}
		if e := h.Put(v, 99); e != want {
			t.Error("Put", v, e)
		}
		if e := h.Share(v); e != want {
			t.Error("Share", v, e)
		}
	}
	if e := h.Release(h.Root()); e != api.ErrArg {
		t.Error(e)
	}
	if !reflect.DeepEqual(before, h.Objects()) {
		t.Error("an error changed something")
	}
}

func TestStore(t *testing.T) { // P2.3, P2.7
	h := made(t, 40)
	a, _ := h.Alloc(2, 1, 5)
	for _, f := range []int{-1, 2, 16} {
		if _, e := h.Load(a, f); e != api.ErrField {
			t.Error(f, e)
		}
		if e := h.Store(a, f, api.Val{}); e != api.ErrField {
			t.Error(f, e)
		}
	}
	for _, v := range []api.Val{{}, num(0), {K: api.Ref, N: 3}, {K: 9}} {
		if e := h.Store(a, 0, v); e != api.ErrKind {
			t.Error(v, e)
		}
	}
	for _, v := range []api.Val{{}, value.Nil(), h.Root(), {K: 9}} {
		if e := h.Store(a, 1, v); e != api.ErrKind {
			t.Error(v, e)
		}
	}
	gone := ref(77, 900) // a reference may be stored, whatever it refers to
	for _, c := range []struct {
		f int
		v api.Val
	}{{0, h.Root()}, {0, gone}, {0, value.Nil()}, {1, num(-4)}} {
		if e := h.Store(a, c.f, c.v); e != api.OK {
			t.Error(c, e)
		}
		if v, e := h.Load(a, c.f); e != api.OK || v != c.v {
			t.Error(c, v, e)
		}
	}
}

func TestStates(t *testing.T) { // P2.2, P2.3
	h := made(t, 40)
	a, _ := h.Alloc(1, 0, 5)
	for _, s := range []api.State{api.Dead, -1, 4} {
		if e := h.Put(a, s); e != api.ErrArg {
			t.Error(s, e)
		}
	}
	state := func(want api.State) {
		t.Helper()
		if head, ok := h.Head(a); !ok || head.State != want || head.Owner != 5 {
			t.Error(head, ok, want)
		}
	}
	state(api.Private)
	h.Share(a)
	state(api.Shared)
	for _, s := range []api.State{api.Freed, api.Private, api.Shared, api.Freed} {
		if e := h.Put(a, s); e != api.OK {
			t.Error(s, e)
		}
		state(s)
	}
	if e := h.Share(a); e != api.OK {
		t.Error(e)
	}
	state(api.Freed) // Share turns private ones alone
	if v, e := h.Load(a, 0); e != api.OK || v != num(0) {
		t.Error("a freed one is there", v, e)
	}
	if e := h.Release(a); e != api.OK {
		t.Error(e)
	}
	if _, ok := h.Head(a); ok {
		t.Error("a released one is not")
	}
}

func TestObjects(t *testing.T) { // P2.4
	h := made(t, 60)
	a, _ := h.Alloc(2, 2, 1)
	b, _ := h.Alloc(1, 0, 2)
	c, _ := h.Alloc(3, 0, 0)
	h.Store(a, 1, b)
	h.Release(b)
	h.Put(c, api.Freed)
	l := h.Objects()
	if len(l) != 3 || l[0].Ref != h.Root() || len(l[0].F) != 16 || l[1].Ref != a || l[2].Ref != c || h.Used() != 26 {
		t.Fatal(l)
	}
	want := api.Object{Ref: a, Head: api.Head{Gen: 1, Fields: 2, Mask: 2, State: api.Private, Owner: 1}, F: []api.Val{num(0), b}}
	if !reflect.DeepEqual(l[1], want) || l[2].Head.State != api.Freed {
		t.Error(l[1], l[2])
	}
	l[1].F[0] = num(99) // an answer is one's own
	if v, _ := h.Load(a, 0); v != num(0) {
		t.Error(v)
	}
}

func TestFork(t *testing.T) { // P2.4
	h := made(t, 60)
	a, _ := h.Alloc(2, 0, 1)
	b, _ := h.Alloc(2, 0, 1)
	h.Store(a, 0, num(3))
	h.Release(b)
	f := h.Fork()
	if !reflect.DeepEqual(f.Objects(), h.Objects()) || f.Used() != h.Used() || f.Root() != h.Root() {
		t.Fatal("not alike")
	}
	f.Store(a, 0, num(4))
	f.Put(a, api.Freed)
	x, _ := f.Alloc(2, 0, 0)
	f.Alloc(5, 0, 0)
	if v, _ := h.Load(a, 0); v != num(3) || h.Used() != 23 {
		t.Error("the fork wrote into it")
	}
	if y, _ := h.Alloc(2, 0, 0); y != x || y != ref(2, 21) {
		t.Error("places that wait", x, y)
	}
	if f.Used() != 29 {
		t.Error(f.Used())
	}
}

func TestNobodyMadeIt(t *testing.T) { // P2.4
	for _, h := range []*heap.Heap{nil, {}} {
		r := ref(1, 1)
		if v, e := h.Alloc(0, 0, 0); e != api.ErrNil || v != (api.Val{}) {
			t.Error(v, e)
		}
		if _, ok := h.Head(r); ok {
			t.Error("Head")
		}
		if v, e := h.Load(r, 0); e != api.ErrNil || v != (api.Val{}) {
			t.Error(v, e)
		}
		for _, e := range []api.Errno{h.Release(r), h.Store(r, 0, num(0)), h.Put(r, api.Shared), h.Share(r), h.Release(num(1))} {
			if e != api.ErrNil {
				t.Error(e)
			}
		}
		if h.Objects() != nil || h.Used() != 0 || h.Root() != (api.Val{}) || h.Fork() != nil {
			t.Error("zeros")
		}
	}
}

// P2.5, P2.6, P2.7: what was released is ErrFreed for ever, and each object has what was stored by its own reference.
func TestRandomly(t *testing.T) {
	r := rand.New(rand.NewSource(1))
	for range 20 {
		words := 17 + r.Intn(120)
		h := made(t, words)
		has := map[api.Val]int{}
		var live, gone []api.Val
		used := h.Used()
		for range 300 {
			switch r.Intn(3) {
			case 0:
				v, e := h.Alloc(1+r.Intn(4), 0, 0)
				if e == api.OK {
					if _, ok := has[v]; ok {
						t.Fatal("a reference is told again", v)
					}
					has[v] = 0
					live = append(live, v)
				} else if e != api.ErrHeap {
					t.Fatal(e)
				}
			case 1:
				if len(live) > 0 {
					i := r.Intn(len(live))
					h.Release(live[i])
					gone = append(gone, live[i])
					live = append(live[:i], live[i+1:]...)
				}
			case 2:
				if len(live) > 0 {
					v := live[r.Intn(len(live))]
					has[v] = r.Int()
					h.Store(v, 0, num(has[v]))
				}
			}
			if h.Used() < used || h.Used() > words {
				t.Fatal("Used", used, h.Used(), words)
			}
			used = h.Used()
		}
		for _, v := range live {
			if x, e := h.Load(v, 0); e != api.OK || x != num(has[v]) {
				t.Fatal(v, x, e)
			}
		}
		for _, v := range gone {
			if _, e := h.Load(v, 0); e != api.ErrFreed {
				t.Fatal(v, e)
			}
		}
		if len(h.Objects()) != len(live)+1 {
			t.Fatal(len(h.Objects()), len(live))
		}
		for _, o := range h.Objects() {
			for f, v := range o.F {
				if (v.K == api.Ref) != (o.Head.Mask>>f&1 == 1) {
					t.Fatal(o)
				}
			}
		}
	}
}
