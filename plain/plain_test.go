package plain_test

import (
	"math/rand"
	"reflect"
	"testing"

	"gantlet/api"
	"gantlet/heap"
	"gantlet/mem"
	"gantlet/plain"
	"gantlet/value"
)

func num(n int) api.Val { return value.Number(n) }

// world is a memory, an Access a thread, and how many steps there were.
type world struct {
	t   *testing.T
	m   *mem.Mem
	x   []*plain.Access
	now int
}

func made(t *testing.T, clock, threads int) *world {
	t.Helper()
	m, e := mem.New(api.Conf{Words: 200, Orecs: 8, Reads: 1, Undo: 1, Clock: clock, Manager: api.Greedy}, threads)
	if e != api.OK {
		t.Fatal(e)
	}
	w := &world{t: t, m: m}
	for i := range threads {
		x, e := plain.New(m, i)
		if e != api.OK {
			t.Fatal(e)
		}
		w.x = append(w.x, x)
	}
	return w
}

func (w *world) root() api.Val { return w.m.Heap().Root() }

func (w *world) object(s api.State, owner int) api.Val {
	v, _ := w.m.Heap().Alloc(2, 1, owner)
	w.m.Heap().Put(v, s)
	return v
}

func (w *world) ok(e api.Errno) {
	w.t.Helper()
	if e != api.OK {
		w.t.Fatal("call", e)
	}
}

func (w *world) step(t int) (api.Step, bool) {
	w.now++
	return w.x[t].Step(w.now)
}

// more takes steps none of which is the last one.
func (w *world) more(t int, kinds ...api.StepKind) api.Step {
	w.t.Helper()
	var s api.Step
	for i, k := range kinds {
		var done bool
		s, done = w.step(t)
		if s.Kind != k || done || s.Thread != t || s.Began != 0 || w.x[t].Certain() && k != api.SClock && k != api.SStore {
			w.t.Fatalf("step %d of %v: %v %v", i, kinds, s, done)
		}
	}
	return s
}

// last takes the last step: with that result, or error, as it was at that many steps ahead.
func (w *world) last(t int, k api.StepKind, v api.Val, e api.Errno, ahead int) api.Step {
	w.t.Helper()
	s, done := w.step(t)
	x := w.x[t]
	if s.Kind != k || !done || s.Thread != t || s.Began != 0 || x.Busy() || !x.Certain() || x.Result() != v || x.Err() != e || x.Moment() != w.now-ahead {
		w.t.Fatalf("last step: %v %v: %v %v at %d of %d", s, done, x.Result(), x.Err(), x.Moment(), w.now)
	}
	return s
}

func TestNewAndCalls(t *testing.T) { // P18.1
	for _, m := range []*mem.Mem{nil, {}} {
		if x, e := plain.New(m, 0); x != nil || e != api.ErrNil {
			t.Error(e)
		}
	}
	w := made(t, 9, 2)
	for _, n := range []int{-1, 2} {
		if x, e := plain.New(w.m, n); x != nil || e != api.ErrRange {
			t.Error(n, e)
		}
	}
	x := w.x[0]
	if s, done := x.Step(1); s != (api.Step{}) || done || x.Busy() || x.Certain() {
		t.Error(s, done)
	}
	w.ok(x.Get(num(0), 0))
	for i, e := range []api.Errno{x.Get(w.root(), 0), x.Set(w.root(), 0, num(0)), x.Make(1, 0), x.Free(w.root())} {
		if e != api.ErrTxn {
			t.Error(i, e)
		}
	}
	w.last(0, api.SLook, api.Val{}, api.ErrKind, 0)
	w.ok(x.Get(w.root(), 8))
	if x.Certain() || x.Err() != api.OK || x.Result() != (api.Val{}) || !x.Busy() {
		t.Error("nothing is done yet")
	}
}

func TestNobodyMadeIt(t *testing.T) {
	for _, x := range []*plain.Access{nil, {}} {
		for i, e := range []api.Errno{x.Get(num(0), 0), x.Set(num(0), 0, num(0)), x.Make(0, 0), x.Free(num(0))} {
			if e != api.ErrNil {
				t.Error(i, e)
			}
		}
		if s, done := x.Step(1); s != (api.Step{}) || done {
			t.Error(s, done)
		}
		x.Undone(nil)
		if x.Result() != (api.Val{}) || x.Err() != api.OK || x.Busy() || x.Certain() || x.Moment() != 0 {
			t.Error("zeros")
		}
	}
}

func TestGet(t *testing.T) { // P18.2, P18.3, P18.5
	w := made(t, 9, 2)
	x := w.x[0]
	w.m.Heap().Store(w.root(), 8, num(7))
	w.ok(x.Get(w.root(), 8))
	w.more(0, api.SLook, api.SOrec)
	if s := w.more(0, api.SLoad); s != (api.Step{Kind: api.SLoad, Ref: w.root(), Field: 8}) || x.Moment() != w.now {
		t.Error(s, x.Moment())
	}
	w.last(0, api.SOrec, num(7), api.OK, 1)
	own, other, freed := w.object(api.Private, 0), w.object(api.Private, 1), w.object(api.Freed, 0)
	gone := w.object(api.Shared, 0)
	w.m.Heap().Release(gone)
	for _, c := range []struct {
		ref   api.Val
		field int
		e     api.Errno
	}{{num(1), 0, api.ErrKind}, {api.Val{}, 0, api.ErrKind}, {value.Nil(), 99, api.ErrDeref}} {
		w.ok(x.Get(c.ref, c.field))
		w.last(0, api.SLook, api.Val{}, c.e, 0)
	}
	for _, c := range []struct {
		ref   api.Val
		field int
		v     api.Val
		e     api.Errno
	}{{gone, 0, api.Val{}, api.ErrFreed}, {freed, 99, api.Val{}, api.ErrFreed}, {w.root(), 16, api.Val{}, api.ErrField}, {w.root(), -1, api.Val{}, api.ErrField}, {other, 0, value.Nil(), api.OK}, {other, 2, api.Val{}, api.ErrField}} {
		w.ok(x.Get(c.ref, c.field))
		w.more(0, api.SLook, api.SOrec, api.SLoad)
		w.last(0, api.SOrec, c.v, c.e, 1)
	}
	w.ok(x.Get(own, 1))
	if s := w.last(0, api.SLoad, num(0), api.OK, 0); s.Ref != own || s.Field != 1 {
		t.Error(s)
	}
	w.ok(x.Get(own, 2))
	w.last(0, api.SLoad, api.Val{}, api.ErrField, 0)
}

func TestSet(t *testing.T) { // P18.2, P18.3, P18.5
	w := made(t, 9, 2)
	x := w.x[0]
	i := w.m.Orecs().Index(w.root())
	w.ok(x.Set(w.root(), 8, num(7)))
	w.more(0, api.SLook, api.SOrec, api.SLock)
	if o := w.m.Orecs().At(i); o != (api.Orec{K: api.Anon, I: 1}) {
		t.Error(o)
	}
	if s := w.more(0, api.SStore); s.Ref != w.root() || s.Field != 8 || x.Certain() {
		t.Error(s)
	}
	f := w.m.Heap().Fork()
	if v, _ := f.Load(w.root(), 8); v != num(7) {
		t.Error(v)
	}
	x.Undone(f)
	if v, _ := f.Load(w.root(), 8); v != num(0) {
		t.Error("Undone", v)
	}
	w.more(0, api.SClock)
	if !x.Certain() || x.Moment() != w.now || x.Err() != api.OK || w.m.Clock().Now() != 1 {
		t.Error("certain from its clock step on")
	}
	f = w.m.Heap().Fork()
	x.Undone(f)
	if v, _ := f.Load(w.root(), 8); v != num(7) {
		t.Error("a certain one is not taken back", v)
	}
	w.last(0, api.SFree, api.Val{}, api.OK, 1)
	if o := w.m.Orecs().At(i); o != (api.Orec{N: 1, I: 1}) {
		t.Error(o)
	}
	own, other, freed := w.object(api.Private, 0), w.object(api.Private, 1), w.object(api.Freed, 0)
	w.ok(x.Set(own, 1, num(3)))
	if s := w.last(0, api.SStore, api.Val{}, api.OK, 0); s.Ref != own || s.Field != 1 {
		t.Error(s)
	}
	for _, c := range []struct {
		field int
		v     api.Val
		e     api.Errno
	}{{2, num(0), api.ErrField}, {0, num(0), api.ErrKind}, {1, api.Val{}, api.ErrKind}} {
		w.ok(x.Set(own, c.field, c.v))
		w.last(0, api.SStore, api.Val{}, c.e, 0)
	}
	for _, ref := range []api.Val{num(1), {}, value.Nil()} {
		w.ok(x.Set(ref, 0, num(0)))
		e := api.ErrKind
		if value.IsNil(ref) {
			e = api.ErrDeref
		}
		w.last(0, api.SLook, api.Val{}, e, 0)
	}
	before := w.m.Heap().Objects()
	for _, c := range []struct {
		ref   api.Val
		field int
		v     api.Val
		e     api.Errno
	}{{freed, 9, num(0), api.ErrFreed}, {w.root(), 16, num(0), api.ErrField}, {w.root(), 0, num(0), api.ErrKind}, {other, 1, value.Nil(), api.ErrKind}} {
		record := w.m.Orecs().At(w.m.Orecs().Index(c.ref))
		w.ok(x.Set(c.ref, c.field, c.v))
		w.more(0, api.SLook, api.SOrec, api.SLock)
		w.more(0, api.SStore)
		if !x.Certain() || x.Err() != c.e || x.Moment() != w.now {
			t.Error("certain with its error", c, x.Err())
		}
		x.Undone(w.m.Heap())
		w.last(0, api.SFree, api.Val{}, c.e, 1)
		record.I++
		if o := w.m.Orecs().At(w.m.Orecs().Index(c.ref)); o != record {
			t.Error("let go with the version that was remembered", o, record)
		}
	}
	if !reflect.DeepEqual(before, w.m.Heap().Objects()) || w.m.Clock().Now() != 1 {
		t.Error("an error changed something")
	}
}

func TestFullClock(t *testing.T) { // P18.2
	w := made(t, 1, 1)
	x := w.x[0]
	w.m.Clock().Next()
	for _, c := range []struct {
		field int
		v     api.Val
		e     api.Errno
	}{{8, num(1), api.ErrClock}, {0, num(1), api.ErrClock}, {16, num(1), api.ErrField}} {
		w.ok(x.Set(w.root(), c.field, c.v))
		w.more(0, api.SLook, api.SOrec, api.SLock, api.SStore)
		w.last(0, api.SFree, api.Val{}, c.e, 1)
	}
	if v, _ := w.m.Heap().Load(w.root(), 8); v != num(0) {
		t.Error(v)
	}
	own := w.object(api.Private, 0)
	w.ok(x.Set(own, 1, num(3))) // no clock is needed
	w.last(0, api.SStore, api.Val{}, api.OK, 0)
}

func TestMarks(t *testing.T) { // P18.2, P18.6
	w := made(t, 9, 2)
	x := w.x[0]
	a, b, c := w.object(api.Private, 0), w.object(api.Private, 0), w.object(api.Private, 0)
	w.m.Heap().Store(a, 0, b)
	w.m.Heap().Store(b, 0, a)
	state := func(v api.Val) api.State { h, _ := w.m.Heap().Head(v); return h.State }
	w.ok(x.Set(c, 0, a)) // into an own one: nothing is shared
	w.last(0, api.SStore, api.Val{}, api.OK, 0)
	w.ok(w.x[1].Set(w.root(), 4, a)) // another one's own is not shared by it
	w.more(1, api.SLook, api.SOrec, api.SLock, api.SStore)
	w.more(1, api.SClock)
	w.last(1, api.SFree, api.Val{}, api.OK, 1)
	w.ok(x.Set(w.root(), 3, a))
	w.more(0, api.SLook)
	for _, v := range []api.Val{a, b} {
		if state(v) != api.Private {
			t.Error("too early")
		}
		if s := w.more(0, api.SMark); s.Ref != v || s.Field != 0 || state(v) != api.Shared {
			t.Error(s)
		}
	}
	w.more(0, api.SOrec, api.SLock, api.SStore, api.SClock)
	w.last(0, api.SFree, api.Val{}, api.OK, 1)
	if state(c) != api.Private {
		t.Error("what refers to it stays")
	}
}

func TestMakeFree(t *testing.T) { // P18.2
	w := made(t, 9, 2)
	x := w.x[0]
	w.ok(x.Make(2, 1))
	s, done := w.step(0)
	ref := x.Result()
	if s != (api.Step{Kind: api.SHeap, Ref: ref}) || !done || x.Err() != api.OK || x.Moment() != w.now {
		t.Error(s, done)
	}
	if h, ok := w.m.Heap().Head(ref); !ok || h.State != api.Private || h.Owner != 0 || h.Fields != 2 || h.Mask != 1 {
		t.Error(h)
	}
	for _, c := range []struct {
		fields, mask int
		e            api.Errno
	}{{0, 0, api.ErrArg}, {2, 4, api.ErrArg}} {
		w.ok(x.Make(c.fields, c.mask))
		if s := w.last(0, api.SHeap, api.Val{}, c.e, 0); s.Ref != (api.Val{}) {
			t.Error(s)
		}
	}
	w.ok(w.x[1].Free(ref)) // another one's own
	w.more(1, api.SLook, api.SOrec)
	if s := w.more(1, api.SLoad); s.Ref != ref || s.Field != -1 {
		t.Error(s)
	}
	w.last(1, api.SOrec, api.Val{}, api.ErrFree, 1)
	w.ok(x.Free(ref))
	if s := w.last(0, api.SHeap, api.Val{}, api.OK, 0); s.Ref != ref {
		t.Error(s)
	}
	if _, ok := w.m.Heap().Head(ref); ok {
		t.Error("released")
	}
	for _, c := range []struct {
		ref api.Val
		e   api.Errno
	}{{num(1), api.ErrKind}, {value.Nil(), api.ErrDeref}, {w.root(), api.ErrFree}} {
		w.ok(x.Free(c.ref))
		w.last(0, api.SLook, api.Val{}, c.e, 0)
	}
	for _, c := range []struct {
		ref api.Val
		e   api.Errno
	}{{ref, api.ErrFreed}, {w.object(api.Freed, 0), api.ErrFreed}, {w.object(api.Shared, 0), api.ErrFree}} {
		w.ok(x.Free(c.ref))
		w.more(0, api.SLook, api.SOrec, api.SLoad)
		w.last(0, api.SOrec, api.Val{}, c.e, 1)
	}
}

func TestWaits(t *testing.T) { // P18.2, P18.4: example 2 of the whole
	w := made(t, 9, 2)
	x := w.x[0]
	i := w.m.Orecs().Index(w.root())
	for _, by := range []api.Orec{{K: api.Owned, N: 1}, {K: api.Anon, N: 1}} {
		version := w.m.Orecs().At(i).N
		w.m.Orecs().Take(i, version, by)
		w.ok(x.Get(w.root(), 8))
		w.more(0, api.SLook, api.SWait, api.SWait)
		w.m.Orecs().Let(i, 5)
		w.more(0, api.SOrec, api.SLoad)
		w.m.Orecs().Take(i, 5, by)
		w.m.Heap().Store(w.root(), 8, num(44))
		w.more(0, api.SOrec, api.SWait)
		w.m.Orecs().Let(i, 5) // the same version, but somebody had it
		w.more(0, api.SOrec, api.SLoad)
		w.m.Orecs().Take(i, 5, by)
		w.m.Orecs().Let(i, 5)
		w.more(0, api.SOrec, api.SOrec, api.SLoad)
		w.last(0, api.SOrec, num(44), api.OK, 1)
		w.ok(x.Set(w.root(), 8, num(1)))
		w.more(0, api.SLook, api.SOrec)
		w.m.Orecs().Take(i, 5, by)
		w.more(0, api.SLock, api.SWait, api.SWait)
		w.m.Orecs().Let(i, 6)
		w.more(0, api.SOrec, api.SLock, api.SStore, api.SClock)
		w.last(0, api.SFree, api.Val{}, api.OK, 1)
		w.ok(x.Free(w.object(api.Shared, 0)))
		w.more(0, api.SLook, api.SOrec, api.SLoad)
		w.last(0, api.SOrec, api.Val{}, api.ErrFree, 1)
	}
}

// P18.4: accesses of three threads by chance are one order by their moments.
func TestRandomly(t *testing.T) {
	type done struct {
		write bool
		field int
		v     api.Val
	}
	for seed := range int64(100) {
		r := rand.New(rand.NewSource(seed))
		w := made(t, 1000, 3)
		at := map[int]done{} // by moments
		var doing [3]done
		for range 400 {
			n := r.Intn(3)
			x := w.x[n]
			if !x.Busy() {
				doing[n] = done{r.Intn(2) == 0, 8 + r.Intn(2), num(r.Intn(100))}
				if doing[n].write {
					w.ok(x.Set(w.root(), doing[n].field, doing[n].v))
				} else {
					w.ok(x.Get(w.root(), doing[n].field))
				}
			}
			if _, over := w.step(n); over {
				if !doing[n].write {
					doing[n].v = x.Result()
				}
				at[x.Moment()] = doing[n]
			}
		}
		has := [16]api.Val{8: num(0), 9: num(0)}
		for step := range w.now + 1 {
			d, ok := at[step]
			if !ok {
				continue
			}
			if d.write {
				has[d.field] = d.v
			} else if has[d.field] != d.v {
				t.Fatal(seed, step, d, has[d.field])
			}
		}
		f := w.m.Heap().Fork()
		for _, x := range w.x {
			x.Undone(f)
		}
		checkEnd(t, f, w, has)
	}
}

// checkEnd: but of those that are certain and not done, all is as the last write left it.
func checkEnd(t *testing.T, f *heap.Heap, w *world, has [16]api.Val) {
	for _, x := range w.x {
		if x.Busy() && x.Certain() {
			return
		}
	}
	for field := 8; field < 10; field++ {
		if v, _ := f.Load(w.root(), field); v != has[field] {
			t.Fatal(field, v, has[field])
		}
	}
}
