package txn_test

import (
	"math/rand"
	"reflect"
	"testing"

	"gantlet/api"
	"gantlet/heap"
	"gantlet/mem"
	"gantlet/txn"
	"gantlet/value"
)

func num(n int) api.Val { return value.Number(n) }

func conf() api.Conf {
	return api.Conf{Words: 200, Orecs: 8, Reads: 10, Undo: 10, Clock: 100, Manager: api.Greedy}
}

// world is a memory, a Txn a thread, and how many steps there were.
type world struct {
	t   *testing.T
	m   *mem.Mem
	x   []*txn.Txn
	now int
}

func made(t *testing.T, c api.Conf, threads int) *world {
	t.Helper()
	m, e := mem.New(c, threads)
	if e != api.OK {
		t.Fatal(e)
	}
	w := &world{t: t, m: m}
	for i := range threads {
		x, e := txn.New(m, i)
		if e != api.OK {
			t.Fatal(e)
		}
		w.x = append(w.x, x)
	}
	return w
}

func (w *world) root() api.Val { return w.m.Heap().Root() }

// object is one with fields 0 and 1, mask 1, in that state.
func (w *world) object(s api.State, owner int) api.Val {
	v, e := w.m.Heap().Alloc(2, 1, owner)
	if e != api.OK {
		w.t.Fatal(e)
	}
	w.m.Heap().Put(v, s)
	return v
}

func (w *world) step(t int) (api.Step, txn.Outcome) {
	w.now++
	return w.x[t].Step(w.now)
}

// ok is for the calls of tasks.
func (w *world) ok(e api.Errno) {
	w.t.Helper()
	if e != api.OK {
		w.t.Fatal("call", e)
	}
}

// steps takes as many steps as there are kinds, the last of which tells the outcome, and all others More.
func (w *world) steps(t int, last txn.Outcome, kinds ...api.StepKind) api.Step {
	w.t.Helper()
	var s api.Step
	for i, k := range kinds {
		var o txn.Outcome
		s, o = w.step(t)
		want := txn.More
		if i == len(kinds)-1 {
			want = last
		}
		if s.Kind != k || o != want || s.Thread != t {
			w.t.Fatalf("step %d of %v: %v %v, not %v", i, kinds, s, o, want)
		}
	}
	return s
}

// finish takes steps till a task, or its attempt, is over.
func (w *world) finish(t int) txn.Outcome {
	w.t.Helper()
	for range 10000 {
		if _, o := w.step(t); o != txn.More {
			return o
		}
	}
	w.t.Fatal("no end")
	return txn.None
}

func (w *world) begin(t int) {
	w.t.Helper()
	w.ok(w.x[t].Begin())
	w.steps(t, txn.Done, api.SEpoch, api.SClock)
}

func (w *world) load(t int, ref api.Val, field int) api.Val {
	w.t.Helper()
	w.ok(w.x[t].Load(ref, field))
	if o := w.finish(t); o != txn.Done {
		w.t.Fatal("load", o, w.x[t].Err())
	}
	return w.x[t].Result()
}

func (w *world) store(t int, ref api.Val, field int, v api.Val) {
	w.t.Helper()
	w.ok(w.x[t].Store(ref, field, v))
	if o := w.finish(t); o != txn.Done {
		w.t.Fatal("store", o, w.x[t].Err())
	}
}

func (w *world) create(t, fields, mask int) api.Val {
	w.t.Helper()
	w.ok(w.x[t].Make(fields, mask))
	s := w.steps(t, txn.Done, api.SHeap)
	if s != (api.Step{Kind: api.SHeap, Thread: t, Ref: w.x[t].Result(), Began: w.x[t].Began()}) {
		w.t.Error(s)
	}
	return w.x[t].Result()
}

func (w *world) commit(t int) {
	w.t.Helper()
	w.ok(w.x[t].Commit())
	if o := w.finish(t); o != txn.Done {
		w.t.Fatal("commit", o, w.x[t].Err())
	}
}

// fails drives a task that faults: so many steps till it does, the last of which is of that kind.
func (w *world) fails(t int, e api.Errno, kinds ...api.StepKind) {
	w.t.Helper()
	w.steps(t, txn.More, kinds...)
	if !w.m.IsFirm(t) {
		w.t.Error("who is taken back is firm")
	}
	if o := w.finish(t); o != txn.Failed || w.x[t].Err() != e || w.x[t].Open() || w.x[t].Busy() {
		w.t.Error("fails", o, w.x[t].Err(), e)
	}
}

func (w *world) quiet() { // nothing is anybody's
	w.t.Helper()
	for t := range w.x {
		if len(w.m.Orecs().Of(t)) != 0 || w.m.Slots().In(t) || w.m.Stamp(t) != 0 || w.m.IsFirm(t) {
			w.t.Error("something is left", t)
		}
	}
}

func TestNewAndCalls(t *testing.T) { // P17.1
	for _, m := range []*mem.Mem{nil, {}} {
		if x, e := txn.New(m, 0); x != nil || e != api.ErrNil {
			t.Error(e)
		}
	}
	w := made(t, conf(), 2)
	for _, n := range []int{-1, 2} {
		if x, e := txn.New(w.m, n); x != nil || e != api.ErrRange {
			t.Error(n, e)
		}
	}
	x := w.x[0]
	tasks := func() []api.Errno {
		return []api.Errno{x.Load(w.root(), 0), x.Store(w.root(), 0, num(1)), x.Free(w.root()), x.Make(1, 0), x.Back(txn.Mark{}), x.Park(), x.Fail(api.ErrArg), x.Commit()}
	}
	refused := func(l ...api.Errno) {
		t.Helper()
		for i, e := range l {
			if e != api.ErrTxn {
				t.Error(i, e)
			}
		}
	}
	refused(tasks()...) // no attempt
	if s, o := x.Step(1); s != (api.Step{}) || o != txn.None {
		t.Error(s, o)
	}
	w.ok(x.Begin())
	if !x.Busy() || x.Open() || x.Began() != 0 || w.m.Stamp(0) != 0 {
		t.Error("nothing is done yet")
	}
	refused(append(tasks(), x.Begin())...) // a task is under way
	w.steps(0, txn.More, api.SEpoch)
	refused(append(tasks(), x.Begin())...)
	w.steps(0, txn.Done, api.SClock)
	refused(x.Begin(), x.Fail(api.OK), x.Back(txn.Mark{Undo: -1}), x.Back(txn.Mark{News: -1}), x.Back(txn.Mark{Frees: -1}), x.Back(txn.Mark{Undo: 1}), x.Back(txn.Mark{News: 1}), x.Back(txn.Mark{Frees: 1}))
	w.ok(x.Load(w.root(), 0))
	refused(append(tasks(), x.Begin())...)
	w.finish(0)
	w.commit(0)
	refused(tasks()...)
	w.ok(x.Begin())
}

func TestOutcomes(t *testing.T) { // their numbers
	for n, o := range []txn.Outcome{txn.None, txn.More, txn.Done, txn.Gave, txn.Rolled, txn.Parked, txn.Failed} {
		if int(o) != n {
			t.Error(n, o)
		}
	}
}

func TestNobodyMadeIt(t *testing.T) {
	for _, x := range []*txn.Txn{nil, {}} {
		for i, e := range []api.Errno{x.Begin(), x.Load(num(0), 0), x.Store(num(0), 0, num(0)), x.Free(num(0)), x.Make(0, 0), x.Back(txn.Mark{}), x.Park(), x.Fail(api.OK), x.Commit()} {
			if e != api.ErrNil {
				t.Error(i, e)
			}
		}
		if s, o := x.Step(1); s != (api.Step{}) || o != txn.None {
			t.Error(s, o)
		}
		x.Undone(nil)
		if x.Result() != (api.Val{}) || x.Err() != api.OK || x.Busy() || x.Open() || x.Certain() || x.Moment() != 0 || x.Began() != 0 || x.Since() != 0 || x.Mark() != (txn.Mark{}) || x.Made() != nil || x.Reads() != nil || x.Waits() != nil {
			t.Error("zeros")
		}
	}
}

func TestAlone(t *testing.T) { // P17.2, P17.3, P17.5, the example
	w := made(t, conf(), 2)
	x := w.x[0]
	w.m.Heap().Store(w.root(), 8, num(5))
	w.ok(x.Begin())
	if s := w.steps(0, txn.More, api.SEpoch); s.Began != 1 || !x.Open() || x.Began() != 1 || w.m.Stamp(0) != 1 || !w.m.Slots().In(0) {
		t.Error(s)
	}
	w.steps(0, txn.Done, api.SClock)
	if x.Since() != 2 || x.Busy() || x.Certain() {
		t.Error(x.Since())
	}
	w.ok(x.Load(w.root(), 8))
	w.steps(0, txn.More, api.SLook, api.SOrec)
	if s := w.steps(0, txn.More, api.SLoad); s != (api.Step{Kind: api.SLoad, Thread: 0, Ref: w.root(), Field: 8, Began: 1}) {
		t.Error(s)
	}
	if s := w.steps(0, txn.Done, api.SOrec); s != (api.Step{Kind: api.SOrec, Began: 1}) || x.Result() != num(5) {
		t.Error(s, x.Result())
	}
	w.ok(x.Store(w.root(), 8, num(6)))
	w.steps(0, txn.More, api.SLook, api.SOrec, api.SLock)
	if s := w.steps(0, txn.Done, api.SStore); s != (api.Step{Kind: api.SStore, Ref: w.root(), Field: 8, Began: 1}) {
		t.Error(s)
	}
	if v := w.load(0, w.root(), 8); v != num(6) || x.Mark() != (txn.Mark{Undo: 1}) {
		t.Error(v, x.Mark())
	}
	if l := x.Reads(); !reflect.DeepEqual(l, []api.Read{{Ref: w.root(), Field: 8, V: num(5)}}) { // not its own write
		t.Error(l)
	}
	w.ok(x.Commit())
	w.steps(0, txn.More, api.SClock)
	if x.Certain() || x.Moment() != w.now || !w.m.IsFirm(0) {
		t.Error("certain too early")
	}
	w.steps(0, txn.More, api.SCheck)
	if !x.Certain() {
		t.Error("certain behind the last check")
	}
	w.steps(0, txn.More, api.SFree, api.SEpoch, api.SEpoch)
	if !x.Open() || w.m.Stamp(0) != 0 {
		t.Error("open till the end")
	}
	if s := w.steps(0, txn.Done, api.SEpoch); s.Began != 1 || x.Open() || !x.Certain() {
		t.Error(s)
	}
	if o := w.m.Orecs().At(w.m.Orecs().Index(w.root())); o != (api.Orec{N: 1, I: 1}) {
		t.Error(o)
	}
	if v, _ := w.m.Heap().Load(w.root(), 8); v != num(6) || w.m.Clock().Now() != 1 {
		t.Error(v)
	}
	w.quiet()
	w.begin(0) // a new attempt
	if x.Certain() || x.Moment() != 0 || len(x.Reads()) != 0 || x.Mark() != (txn.Mark{}) || w.m.Stamp(0) != 2 {
		t.Error("of the attempt that is open")
	}
	w.load(0, w.root(), 0)
	w.ok(x.Commit())
	since := x.Since()
	w.steps(0, txn.Done, api.SEpoch)
	if !x.Certain() || x.Moment() != since || w.m.Clock().Now() != 1 {
		t.Error("a block that wrote nothing stands where it read")
	}
	w.quiet()
}

func TestFaultsOfLoadAndStore(t *testing.T) { // P17.2
	w := made(t, conf(), 2)
	gone := w.object(api.Shared, 0)
	w.m.Heap().Release(gone)
	freed, own, other := w.object(api.Freed, 0), w.object(api.Private, 0), w.object(api.Private, 1)
	x := w.x[0]
	for _, c := range []struct {
		ref         api.Val
		field       int
		v           api.Val
		e, store    api.Errno
		load, write []api.StepKind
	}{
		{num(1), 0, num(0), api.ErrKind, api.ErrKind, []api.StepKind{api.SLook}, []api.StepKind{api.SLook}},
		{api.Val{}, 0, num(0), api.ErrKind, api.ErrKind, []api.StepKind{api.SLook}, []api.StepKind{api.SLook}},
		{value.Nil(), 99, num(0), api.ErrDeref, api.ErrDeref, []api.StepKind{api.SLook}, []api.StepKind{api.SLook}},
		{gone, 0, num(0), api.ErrFreed, api.ErrFreed, []api.StepKind{api.SLook, api.SOrec, api.SLoad, api.SOrec}, []api.StepKind{api.SLook, api.SOrec, api.SLock, api.SStore}},
		{freed, 99, num(0), api.ErrFreed, api.ErrFreed, []api.StepKind{api.SLook, api.SOrec, api.SLoad, api.SOrec}, []api.StepKind{api.SLook, api.SOrec, api.SLock, api.SStore}},
		{w.root(), 16, num(0), api.ErrField, api.ErrField, []api.StepKind{api.SLook, api.SOrec, api.SLoad, api.SOrec}, []api.StepKind{api.SLook, api.SOrec, api.SLock, api.SStore}},
		{w.root(), -1, num(0), api.ErrField, api.ErrField, []api.StepKind{api.SLook, api.SOrec, api.SLoad, api.SOrec}, []api.StepKind{api.SLook, api.SOrec, api.SLock, api.SStore}},
		{w.root(), 0, num(0), api.OK, api.ErrKind, nil, []api.StepKind{api.SLook, api.SOrec, api.SLock, api.SStore}},
		{w.root(), 8, api.Val{}, api.OK, api.ErrKind, nil, []api.StepKind{api.SLook, api.SOrec, api.SLock, api.SStore}},
		{other, 0, num(1), api.OK, api.ErrKind, nil, []api.StepKind{api.SLook, api.SOrec, api.SLock, api.SStore}},
		{own, 2, num(0), api.ErrField, api.ErrField, []api.StepKind{api.SLoad}, []api.StepKind{api.SStore}},
		{own, 0, num(1), api.OK, api.ErrKind, nil, []api.StepKind{api.SStore}},
	} {
		before := w.m.Heap().Objects()
		if c.e != api.OK {
			w.begin(0)
			w.ok(x.Load(c.ref, c.field))
			w.fails(0, c.e, c.load...)
		}
		w.begin(0)
		w.ok(x.Store(c.ref, c.field, c.v))
		w.fails(0, c.store, c.write...)
		w.quiet()
		if !reflect.DeepEqual(before, w.m.Heap().Objects()) {
			t.Error(c, "something is changed")
		}
	}
	w.begin(0) // an own record
	w.store(0, w.root(), 8, num(1))
	w.ok(x.Load(w.root(), 99))
	w.fails(0, api.ErrField, api.SLook, api.SOrec, api.SLoad)
	w.begin(0)
	w.ok(x.Fail(api.ErrLong))
	w.fails(0, api.ErrLong, api.SLocal)
	w.quiet()
}

func TestLimits(t *testing.T) { // P17.2: read set, log, clock, heap
	c := conf()
	c.Reads, c.Undo, c.Clock, c.Orecs = 1, 2, 1, 64
	w := made(t, c, 1)
	x := w.x[0]
	a := w.object(api.Shared, 0)
	w.begin(0)
	w.load(0, w.root(), 0)
	w.load(0, w.root(), 8) // the same record
	w.ok(x.Load(a, 0))
	w.fails(0, api.ErrReads, api.SLook, api.SOrec, api.SLoad, api.SOrec)
	w.begin(0)
	w.load(0, w.root(), 0)
	w.store(0, a, 1, num(1))
	w.ok(x.Load(a, 0)) // by the record that it holds
	w.fails(0, api.ErrReads, api.SLook, api.SOrec, api.SLoad)
	w.begin(0)
	w.store(0, a, 1, num(1))
	w.store(0, a, 1, num(2))
	w.ok(x.Store(a, 0, num(9))) // the log is full ahead of what heap.Store says
	w.fails(0, api.ErrUndo, api.SLook, api.SOrec, api.SStore)
	w.begin(0)
	w.store(0, a, 1, num(1))
	w.store(0, a, 1, num(2))
	w.ok(x.Free(a))
	w.fails(0, api.ErrUndo, api.SLook, api.SOrec, api.SStore)
	if v, _ := w.m.Heap().Load(a, 1); v != num(0) {
		t.Error(v)
	}
	w.begin(0)
	n := w.create(0, 1, 1)
	o := w.create(0, 1, 1)
	p := w.create(0, 1, 1)
	w.m.Heap().Store(n, 0, o)
	w.m.Heap().Store(o, 0, p)
	w.ok(x.Store(w.root(), 0, n)) // two marks fill the log
	w.fails(0, api.ErrUndo, api.SLook, api.SMark, api.SMark, api.SMark)
	w.begin(0)
	w.ok(x.Make(0, 0))
	w.fails(0, api.ErrArg, api.SHeap)
	w.begin(0)
	for {
		w.ok(x.Make(16, 0))
		if s, out := w.step(0); out == txn.More {
			if s.Ref != (api.Val{}) || s.Kind != api.SHeap {
				t.Error(s)
			}
			break
		}
	}
	if w.finish(0) != txn.Failed || x.Err() != api.ErrHeap || len(w.m.Heap().Objects()) != 2 {
		t.Error(x.Err())
	}
	w.begin(0)
	w.store(0, a, 1, num(7))
	w.commit(0)
	w.begin(0)
	w.store(0, a, 1, num(8))
	w.ok(x.Commit())
	w.fails(0, api.ErrClock, api.SClock)
	if v, _ := w.m.Heap().Load(a, 1); v != num(7) || w.m.Clock().Now() != 1 {
		t.Error(v)
	}
	w.begin(0) // without a record no clock is needed
	w.load(0, a, 1)
	w.commit(0)
	w.quiet()
}

func TestOwnObjects(t *testing.T) { // P17.2: no record
	w := made(t, conf(), 2)
	x := w.x[0]
	w.begin(0)
	n := w.create(0, 2, 1)
	w.ok(x.Store(n, 1, num(4)))
	if s := w.steps(0, txn.Done, api.SStore); s.Ref != n || s.Field != 1 {
		t.Error(s)
	}
	w.ok(x.Load(n, 1))
	if s := w.steps(0, txn.Done, api.SLoad); s.Ref != n || s.Field != 1 || x.Result() != num(4) || len(x.Reads()) != 0 {
		t.Error(s)
	}
	gone := w.create(0, 1, 0)
	w.ok(x.Free(gone))
	if s := w.steps(0, txn.Done, api.SStore); s.Ref != gone || s.Field != -1 || x.Mark() != (txn.Mark{Undo: 2, News: 2, Frees: 1}) {
		t.Error(s, x.Mark())
	}
	if !value.Same(x.Made(), []api.Val{n, gone}) {
		t.Error(x.Made())
	}
	w.ok(x.Commit())
	w.steps(0, txn.More, api.SEpoch)
	if s := w.steps(0, txn.Done, api.SHeap); s.Ref != gone || !x.Certain() {
		t.Error(s)
	}
	if _, ok := w.m.Heap().Head(gone); ok || x.Mark() != (txn.Mark{Undo: 2, News: 2, Frees: 1}) {
		t.Error("behind a commit they stay", x.Mark())
	}
	other := w.object(api.Private, 1) // another one's own: by the record
	w.begin(0)
	w.ok(x.Load(other, 1))
	w.steps(0, txn.Done, api.SLook, api.SOrec, api.SLoad, api.SOrec)
	w.commit(0)
	w.quiet()
}

func TestMarks(t *testing.T) { // P17.2: what is stored into a shared object is shared first
	w := made(t, conf(), 1)
	x := w.x[0]
	a, b, c := w.object(api.Private, 0), w.object(api.Private, 0), w.object(api.Private, 0)
	w.m.Heap().Store(a, 0, b)
	w.m.Heap().Store(b, 0, a)
	state := func(v api.Val) api.State { h, _ := w.m.Heap().Head(v); return h.State }
	w.begin(0)
	w.ok(x.Store(c, 0, a)) // into an own one: nothing is shared
	w.steps(0, txn.Done, api.SStore)
	w.ok(x.Store(w.root(), 3, a))
	w.steps(0, txn.More, api.SLook)
	for _, v := range []api.Val{a, b} {
		if state(v) != api.Private {
			t.Error("too early")
		}
		if s := w.steps(0, txn.More, api.SMark); s.Ref != v || s.Field != 0 || state(v) != api.Shared {
			t.Error(s)
		}
	}
	w.steps(0, txn.Done, api.SOrec, api.SLock, api.SStore)
	if x.Mark().Undo != 4 || state(c) != api.Private {
		t.Error(x.Mark())
	}
	w.ok(x.Fail(api.ErrArg))
	w.steps(0, txn.More, api.SLocal)
	for _, want := range []struct {
		ref   api.Val
		field int
	}{{w.root(), 3}, {b, -1}, {a, -1}, {c, 0}} {
		if s := w.steps(0, txn.More, api.SUndo); s.Ref != want.ref || s.Field != want.field {
			t.Error(s, want)
		}
	}
	w.steps(0, txn.More, api.SFree)
	w.steps(0, txn.Failed, api.SEpoch)
	if state(a) != api.Private || state(b) != api.Private {
		t.Error("taken back")
	}
	w.quiet()
}

func TestFree(t *testing.T) { // P17.2
	w := made(t, conf(), 2)
	x := w.x[0]
	a := w.object(api.Shared, 0)
	for _, c := range []struct {
		ref api.Val
		e   api.Errno
	}{{num(1), api.ErrKind}, {value.Nil(), api.ErrDeref}, {w.root(), api.ErrFree}} {
		w.begin(0)
		w.ok(x.Free(c.ref))
		w.fails(0, c.e, api.SLook)
	}
	w.begin(0)
	w.ok(x.Free(a))
	w.steps(0, txn.More, api.SLook, api.SOrec, api.SLock)
	if s := w.steps(0, txn.Done, api.SStore); s.Ref != a || s.Field != -1 {
		t.Error(s)
	}
	if h, _ := w.m.Heap().Head(a); h.State != api.Freed {
		t.Error(h)
	}
	w.ok(x.Free(a)) // twice
	w.fails(0, api.ErrFreed, api.SLook, api.SOrec, api.SStore)
	if h, _ := w.m.Heap().Head(a); h.State != api.Shared || x.Mark() != (txn.Mark{}) {
		t.Error(h)
	}
	w.begin(0)
	w.ok(x.Free(a))
	w.finish(0)
	w.ok(x.Load(a, 0))
	w.fails(0, api.ErrFreed, api.SLook, api.SOrec, api.SLoad)
	w.begin(1) // who is within holds the release up, not the commit
	w.begin(0)
	w.ok(x.Free(a))
	w.finish(0)
	w.ok(x.Commit())
	w.steps(0, txn.More, api.SClock, api.SFree, api.SEpoch, api.SEpoch, api.SWait, api.SWait)
	if _, ok := w.m.Heap().Head(a); !ok || !x.Certain() || !x.Open() {
		t.Error("released ahead of the fence")
	}
	w.commit(1)
	w.steps(0, txn.More, api.SEpoch)
	if s := w.steps(0, txn.Done, api.SHeap); s != (api.Step{Kind: api.SHeap, Ref: a, Began: x.Began()}) {
		t.Error(s)
	}
	w.begin(0)
	w.ok(x.Free(a)) // it is there no more
	w.fails(0, api.ErrFreed, api.SLook, api.SOrec, api.SLock, api.SStore)
	w.quiet()
}

func TestBack(t *testing.T) { // P17.2
	w := made(t, conf(), 1)
	x := w.x[0]
	a := w.object(api.Shared, 0)
	w.begin(0)
	first := w.create(0, 1, 0)
	w.store(0, a, 1, num(1))
	mark := x.Mark()
	w.store(0, a, 1, num(2))
	n := w.create(0, 1, 0)
	w.ok(x.Free(a))
	w.finish(0)
	w.ok(x.Free(n))
	w.finish(0)
	if x.Mark() != (txn.Mark{Undo: 4, News: 2, Frees: 2}) {
		t.Error(x.Mark())
	}
	w.ok(x.Back(mark))
	for _, c := range []struct {
		k     api.StepKind
		ref   api.Val
		field int
	}{{api.SUndo, n, -1}, {api.SUndo, a, -1}, {api.SUndo, a, 1}, {api.SHeap, n, 0}} {
		if s := w.steps(0, txn.More, c.k); s.Ref != c.ref || s.Field != c.field {
			t.Error(s, c)
		}
	}
	w.steps(0, txn.Rolled, api.SLocal)
	if x.Mark() != mark || !value.Same(x.Made(), []api.Val{first}) || !x.Open() || x.Busy() || len(w.m.Orecs().Of(0)) != 1 {
		t.Error(x.Mark())
	}
	if v := w.load(0, a, 1); v != num(1) {
		t.Error(v)
	}
	w.ok(x.Back(txn.Mark{}))
	w.steps(0, txn.Rolled, api.SUndo, api.SHeap, api.SLocal)
	w.commit(0)
	if v, _ := w.m.Heap().Load(a, 1); v != num(0) || len(x.Made()) != 0 {
		t.Error(v)
	}
	w.quiet()
}

func TestTakenBackOrder(t *testing.T) { // P17.2, P17.3, P17.4
	w := made(t, conf(), 1)
	x := w.x[0]
	a := w.object(api.Shared, 0)
	before := w.m.Heap().Objects()
	records := w.m.Orecs().All()
	w.begin(0)
	w.load(0, w.root(), 9)
	n := w.create(0, 1, 0)
	w.store(0, w.root(), 8, num(3))
	w.store(0, a, 0, n)
	w.ok(x.Free(a))
	w.finish(0)
	f := w.m.Heap().Fork()
	x.Undone(f)
	if !reflect.DeepEqual(f.Objects(), before) {
		t.Error("Undone")
	}
	w.ok(x.Park())
	w.steps(0, txn.More, api.SLocal, api.SUndo, api.SUndo)
	f = w.m.Heap().Fork() // midways
	x.Undone(f)
	if !reflect.DeepEqual(f.Objects(), before) {
		t.Error("Undone, midways")
	}
	w.steps(0, txn.More, api.SUndo, api.SUndo, api.SFree, api.SFree, api.SHeap)
	w.steps(0, txn.Parked, api.SEpoch)
	if !reflect.DeepEqual(w.m.Heap().Objects(), before) {
		t.Error("fields and states")
	}
	for i, o := range w.m.Orecs().All() {
		if o.K != records[i].K || o.N != records[i].N {
			t.Error("records", i, o)
		}
	}
	root := w.m.Orecs().Index(w.root())
	if !reflect.DeepEqual(x.Waits(), []api.Seen{{Orec: root, Version: 0}}) || x.Mark() != (txn.Mark{}) || len(x.Made()) != 0 || x.Certain() {
		t.Error(x.Waits(), x.Mark())
	}
	if len(x.Reads()) != 1 {
		t.Error("of the last one", x.Reads())
	}
	w.quiet()
	f = w.m.Heap().Fork()
	x.Undone(f) // none is open
	if !reflect.DeepEqual(f.Objects(), before) {
		t.Error("Undone, behind")
	}
	x.Undone(nil)
}

func TestUndoneOfACertainOne(t *testing.T) { // P17.3
	w := made(t, conf(), 1)
	w.begin(0)
	w.store(0, w.root(), 8, num(3))
	w.ok(w.x[0].Commit())
	for i, want := range []int{0, 3, 3, 3, 3, 3} {
		f := w.m.Heap().Fork()
		w.x[0].Undone(f)
		if v, _ := f.Load(w.root(), 8); v != num(want) {
			t.Error(i, v)
		}
		w.step(0)
	}
}

func TestExtend(t *testing.T) { // P17.2
	w := made(t, conf(), 2)
	a, b := w.object(api.Shared, 0), w.object(api.Shared, 0)
	x := w.x[0]
	w.begin(0)
	put := func() { // a writer that does not wait for its fence
		w.ok(w.x[1].Begin())
		w.finish(1)
		w.store(1, a, 1, num(1))
		w.ok(w.x[1].Commit())
		w.steps(1, txn.More, api.SClock, api.SFree, api.SEpoch, api.SEpoch, api.SWait)
	}
	put()
	w.ok(x.Load(a, 1)) // an empty read set
	w.steps(0, txn.More, api.SLook, api.SOrec, api.SClock)
	if x.Since() != w.now {
		t.Error(x.Since())
	}
	w.steps(0, txn.Done, api.SOrec, api.SLoad, api.SOrec)
	w.commit(0)
	w.finish(1)
	w.begin(0)
	w.load(0, b, 1)
	w.store(0, w.root(), 8, num(9))
	w.load(0, w.root(), 9)
	put()
	w.ok(x.Load(a, 1)) // what was read stands: it goes on from a later snapshot
	w.steps(0, txn.More, api.SLook, api.SOrec, api.SClock)
	then := w.now
	w.steps(0, txn.More, api.SCheck)
	if x.Since() == then {
		t.Error("too early")
	}
	w.steps(0, txn.More, api.SCheck)
	if x.Since() != then {
		t.Error(x.Since(), then)
	}
	w.steps(0, txn.Done, api.SOrec, api.SLoad, api.SOrec)
	w.commit(0)
	w.finish(1)
	w.quiet()
}

func TestGivesWayForAChangedRead(t *testing.T) { // P17.2, P17.4: example 3 of the whole
	w := made(t, conf(), 2)
	a, b := w.object(api.Shared, 0), w.object(api.Shared, 0)
	x := w.x[0]
	w.begin(0)
	stamp := w.m.Stamp(0)
	w.load(0, a, 1)
	w.begin(1)
	w.store(1, a, 1, num(1))
	w.store(1, b, 1, num(1))
	w.ok(w.x[1].Commit())
	w.steps(1, txn.More, api.SClock, api.SFree, api.SFree, api.SEpoch, api.SEpoch, api.SWait)
	w.ok(x.Load(b, 1))
	w.steps(0, txn.More, api.SLook, api.SOrec, api.SClock, api.SCheck)
	if !w.m.IsFirm(0) || !x.Open() || x.Certain() {
		t.Error("it is to be taken back")
	}
	w.steps(0, txn.Gave, api.SEpoch)
	w.left()
	w.finish(1)
	w.begin(0)
	if w.m.Stamp(0) != stamp {
		t.Error("its stamp is kept", w.m.Stamp(0))
	}
	if w.load(0, b, 1) != num(1) || w.load(0, a, 1) != num(1) {
		t.Error("a later snapshot")
	}
	w.commit(0)
	w.begin(0)
	if w.m.Stamp(0) == stamp {
		t.Error("a new one")
	}
}

// left: nothing is the first thread's.
func (w *world) left() {
	w.t.Helper()
	if len(w.m.Orecs().Of(0)) != 0 || w.m.Slots().In(0) || w.m.Stamp(0) != 0 || w.x[0].Open() || w.x[0].Busy() {
		w.t.Error("something is left")
	}
}

func TestAgain(t *testing.T) { // P17.2: the record has changed between its two looks
	w := made(t, conf(), 2)
	a := w.object(api.Shared, 0)
	i := w.m.Orecs().Index(a)
	x := w.x[0]
	w.begin(0)
	w.ok(x.Load(a, 1))
	w.steps(0, txn.More, api.SLook, api.SOrec, api.SLoad)
	w.m.Orecs().Take(i, 0, api.Orec{K: api.Anon, N: 1})
	w.steps(0, txn.More, api.SOrec, api.SWait, api.SWait)
	w.m.Orecs().Let(i, 0) // the same version, but it was taken
	w.steps(0, txn.More, api.SOrec, api.SLoad)
	w.m.Orecs().Take(i, 0, api.Orec{K: api.Owned, N: 1})
	w.m.Heap().Store(a, 1, num(66))
	w.m.Orecs().Let(i, 0)
	w.steps(0, txn.More, api.SOrec, api.SOrec, api.SLoad)
	w.steps(0, txn.Done, api.SOrec)
	if x.Result() != num(66) {
		t.Error(x.Result())
	}
	w.ok(x.Store(a, 1, num(5)))
	w.steps(0, txn.More, api.SLook, api.SOrec)
	w.m.Orecs().Take(i, 0, api.Orec{K: api.Anon, N: 1})
	w.steps(0, txn.More, api.SLock, api.SWait)
	w.m.Orecs().Let(i, 0)
	w.steps(0, txn.Done, api.SOrec, api.SLock, api.SStore)
	w.commit(0)
}

func TestGreedyMeets(t *testing.T) { // P17.2
	w := made(t, conf(), 3)
	old, young := w.x[0], w.x[1]
	w.begin(0)
	w.begin(1)
	w.store(1, w.root(), 8, num(5))
	w.ok(old.Load(w.root(), 8))
	w.steps(0, txn.More, api.SLook, api.SWait)
	if !w.m.IsDoomed(1) {
		t.Error("the younger one is doomed")
	}
	w.ok(young.Load(w.root(), 9))
	w.steps(1, txn.More, api.SWait) // it gives way
	if !w.m.IsFirm(1) {
		t.Error("firm")
	}
	w.steps(0, txn.More, api.SWait)
	w.steps(1, txn.More, api.SUndo, api.SFree)
	w.steps(1, txn.Gave, api.SEpoch)
	w.steps(0, txn.More, api.SOrec)
	w.ok(young.Begin())
	if s := w.steps(1, txn.More, api.SWait); s.Began != 0 || young.Open() || w.m.Stamp(1) != 0 || w.m.Slots().In(1) {
		t.Error("it waits for the older one", s)
	}
	w.finish(0)
	w.store(0, w.root(), 8, num(1))
	w.begin(2)
	w.ok(w.x[2].Store(w.root(), 9, num(1)))
	w.steps(2, txn.More, api.SLook, api.SOrec) // the younger one gives way itself
	w.steps(2, txn.Gave, api.SEpoch)
	w.commit(0)
	w.steps(1, txn.More, api.SEpoch)
	w.steps(1, txn.Done, api.SClock)
	if w.m.Stamp(1) != 2 {
		t.Error(w.m.Stamp(1))
	}
	w.commit(1)
	w.begin(2)
	w.commit(2)
	w.quiet()
}

func TestDoomedInEachTask(t *testing.T) { // P17.2
	for i, call := range []func(x *txn.Txn, w *world) api.Errno{
		func(x *txn.Txn, w *world) api.Errno { return x.Load(w.root(), 0) }, func(x *txn.Txn, w *world) api.Errno { return x.Store(num(0), 0, num(0)) },
		func(x *txn.Txn, w *world) api.Errno { return x.Free(num(0)) }, func(x *txn.Txn, w *world) api.Errno { return x.Make(1, 0) },
		func(x *txn.Txn, w *world) api.Errno { return x.Back(txn.Mark{}) }, func(x *txn.Txn, w *world) api.Errno { return x.Park() },
		func(x *txn.Txn, w *world) api.Errno { return x.Fail(api.ErrArg) }, func(x *txn.Txn, w *world) api.Errno { return x.Commit() },
	} {
		w := made(t, conf(), 1)
		w.begin(0)
		w.m.Doom(0)
		w.ok(call(w.x[0], w))
		w.steps(0, txn.More, api.SWait)
		w.steps(0, txn.Gave, api.SEpoch)
		if w.x[0].Err() != api.OK {
			t.Error(i, w.x[0].Err())
		}
		w.ok(w.x[0].Begin())
		w.steps(0, txn.More, api.SEpoch)
		w.m.Doom(0)
		w.steps(0, txn.Done, api.SClock) // Begin goes on
		w.ok(w.x[0].Commit())
		w.steps(0, txn.More, api.SWait)
	}
}

func TestMeetsAFirmOne(t *testing.T) { // P17.2: an older one waits for a younger one that commits
	w := made(t, conf(), 2)
	w.begin(0)
	w.begin(1)
	w.store(1, w.root(), 8, num(5))
	w.ok(w.x[1].Commit())
	w.steps(1, txn.More, api.SClock)
	w.ok(w.x[0].Load(w.root(), 8))
	w.steps(0, txn.More, api.SLook, api.SWait, api.SWait)
	if w.m.IsDoomed(1) {
		t.Error("it is firm")
	}
	w.steps(1, txn.More, api.SFree)
	w.steps(0, txn.More, api.SOrec, api.SClock, api.SOrec)
}

func TestChecksMeet(t *testing.T) { // P17.2: a check asks as if the other one were not firm
	w := made(t, conf(), 2)
	a, b := w.object(api.Shared, 0), w.object(api.Shared, 0)
	w.begin(0)
	w.begin(1)
	w.load(0, b, 1)
	w.load(1, a, 1)
	w.store(0, a, 1, num(1))
	w.store(1, b, 1, num(1))
	w.ok(w.x[0].Commit())
	w.ok(w.x[1].Commit())
	w.steps(0, txn.More, api.SClock)
	w.steps(1, txn.More, api.SClock)
	w.steps(0, txn.More, api.SWait) // the other one can't be doomed
	w.steps(1, txn.More, api.SCheck, api.SUndo, api.SFree)
	w.steps(1, txn.Gave, api.SEpoch)
	w.steps(0, txn.More, api.SCheck)
	if !w.x[0].Certain() || w.x[1].Certain() {
		t.Error("certain")
	}
	if w.finish(0) != txn.Done {
		t.Error("commit")
	}
	w.quiet()
}

func TestWhichErrorFirst(t *testing.T) { // P17.2: of an own record the field's error, of another one the read set's
	c := conf()
	c.Reads, c.Orecs = 1, 64
	w := made(t, c, 1)
	a := w.object(api.Shared, 0)
	w.begin(0)
	w.load(0, w.root(), 0)
	w.store(0, a, 1, num(1))
	w.ok(w.x[0].Load(a, 7))
	w.fails(0, api.ErrField, api.SLook, api.SOrec, api.SLoad)
	w.begin(0)
	w.load(0, w.root(), 0)
	w.ok(w.x[0].Load(a, 7))
	w.fails(0, api.ErrReads, api.SLook, api.SOrec, api.SLoad, api.SOrec)
}

func TestStamps(t *testing.T) { // P17.2: who parked, failed or committed takes a new stamp; who gave way keeps his
	w := made(t, conf(), 1)
	x := w.x[0]
	for n, end := range []func() txn.Outcome{
		func() txn.Outcome { w.ok(x.Park()); return w.finish(0) },
		func() txn.Outcome { w.ok(x.Fail(api.ErrArg)); return w.finish(0) },
		func() txn.Outcome { w.ok(x.Commit()); return w.finish(0) },
		func() txn.Outcome { w.m.Doom(0); w.ok(x.Commit()); return w.finish(0) },
		func() txn.Outcome { w.m.Doom(0); w.ok(x.Commit()); return w.finish(0) },
	} {
		w.begin(0)
		if stamp := w.m.Stamp(0); stamp != min(n+1, 4) {
			t.Error(n, stamp)
		}
		end()
	}
}

func TestChecksUnderPolite(t *testing.T) { // P17.2: who finds another version gives way at once
	c := conf()
	c.Manager, c.Tries = api.Polite, 5
	for _, take := range []bool{false, true} { // by another one's write, or by one ahead of its own
		w := made(t, c, 2)
		for range 5 {
			w.m.Clock().Next()
		}
		a, b := w.object(api.Shared, 0), w.object(api.Shared, 0)
		i := w.m.Orecs().Index(a)
		w.begin(0)
		w.load(0, a, 1)
		w.m.Orecs().Take(i, 0, api.Orec{K: api.Anon, N: 1})
		w.m.Orecs().Let(i, 1)
		if take {
			w.store(0, a, 1, num(7)) // its own now, but with another version than was read
		}
		w.store(0, b, 1, num(7))
		w.ok(w.x[0].Commit())
		w.steps(0, txn.More, api.SClock, api.SCheck)
		if o := w.finish(0); o != txn.Gave {
			t.Error(take, o)
		}
		w.quiet()
	}
}

func TestCheckOfAnotherOnes(t *testing.T) { // P17.2: another thread's record is not one's own, whichever version was held
	w := made(t, conf(), 2)
	a, b := w.object(api.Shared, 0), w.object(api.Shared, 0)
	w.begin(1)
	w.begin(0)
	w.load(0, a, 1)
	w.store(0, b, 1, num(1))
	w.store(1, a, 1, num(2))
	w.ok(w.x[0].Commit())
	w.steps(0, txn.More, api.SClock, api.SCheck) // the other one began first
	if o := w.finish(0); o != txn.Gave || w.x[0].Certain() {
		t.Error(o)
	}
	w.commit(1)
	w.quiet()
}

func TestPolite(t *testing.T) { // P17.2: so many tries a task
	c := conf()
	c.Manager, c.Tries = api.Polite, 2
	w := made(t, c, 2)
	w.begin(0)
	w.store(0, w.root(), 8, num(5))
	w.begin(1)
	w.ok(w.x[1].Load(w.root(), 8))
	w.steps(1, txn.More, api.SLook, api.SWait, api.SWait, api.SOrec)
	w.steps(1, txn.Gave, api.SEpoch)
	w.begin(1) // a polite one does not wait to begin
	w.ok(w.x[1].Load(w.root(), 8))
	w.steps(1, txn.More, api.SLook, api.SWait)
	w.ok(w.x[0].Commit())
	w.steps(0, txn.More, api.SClock, api.SFree)
	w.steps(1, txn.More, api.SOrec, api.SClock, api.SOrec, api.SLoad)
	w.steps(1, txn.Done, api.SOrec)
	w.commit(1)
	w.finish(0)
	w.quiet()
}

func TestAnonInACheck(t *testing.T) { // P17.2
	w := made(t, conf(), 2)
	a := w.object(api.Shared, 0)
	w.begin(0)
	w.load(0, a, 1)
	w.store(0, w.root(), 8, num(1))
	i := w.m.Orecs().Index(a)
	w.m.Orecs().Take(i, 0, api.Orec{K: api.Anon, N: 1})
	w.ok(w.x[0].Commit())
	w.steps(0, txn.More, api.SClock, api.SWait, api.SWait)
	w.m.Orecs().Let(i, 9)
	w.steps(0, txn.More, api.SCheck, api.SUndo, api.SFree)
	w.steps(0, txn.Gave, api.SEpoch)
	w.quiet()
}

// P17.4, P17.5, P17.6: attempts of three threads by chance. What is taken back leaves nothing; what an open attempt read was all so at the step Since.
func TestRandomly(t *testing.T) {
	for seed := range int64(150) {
		r := rand.New(rand.NewSource(seed))
		c := conf()
		c.Words, c.Orecs, c.Reads, c.Undo, c.Clock = 2000, 1+r.Intn(6), 2+r.Intn(8), 2+r.Intn(8), 1000
		if r.Intn(2) == 0 {
			c.Manager, c.Tries = api.Polite, 1+r.Intn(4)
		}
		w := made(t, c, 3)
		objs := []api.Val{w.root(), w.object(api.Shared, 0), w.object(api.Shared, 0)}
		states := []*heap.Heap{w.m.Heap().Fork()} // by steps, with all taken back that is not certain
		wrote := make([]map[api.Val]int, 3)       // by threads, fields that were written
		for range 600 {
			n := r.Intn(3)
			x := w.x[n]
			if !x.Open() {
				wrote[n] = map[api.Val]int{}
			}
			if !x.Busy() {
				w.call(r, n, objs)
			}
			was := x.Certain()
			s, o := w.step(n)
			if s.Kind == api.SStore {
				wrote[n][s.Ref] |= 1 << s.Field
			}
			if x.Certain() && !was {
				w.patch(states, x.Moment(), wrote[n])
			}
			if s.Began != x.Began() && s.Began != 0 {
				t.Fatal("Began", s, x.Began())
			}
			if (o == txn.Gave || o == txn.Parked || o == txn.Failed) && (len(w.m.Orecs().Of(n)) != 0 || w.m.Slots().In(n) || w.m.Stamp(n) != 0) {
				t.Fatal("something is left", seed, n)
			}
			f := w.m.Heap().Fork()
			for _, y := range w.x {
				y.Undone(f)
			}
			states = append(states, f)
			w.snapshots(states)
		}
	}
}

// call has some task under way.
func (w *world) call(r *rand.Rand, n int, objs []api.Val) {
	x := w.x[n]
	ref := objs[r.Intn(len(objs))]
	if made := x.Made(); len(made) > 0 && r.Intn(4) == 0 {
		ref = made[r.Intn(len(made))]
	}
	field, v := r.Intn(2), num(r.Intn(50))
	if ref == w.root() {
		field += 7
	}
	if field == 0 || field == 7 {
		field, v = field&7, value.Nil()
		if made := x.Made(); len(made) > 0 {
			v = made[r.Intn(len(made))]
		}
	}
	if ref == w.root() && field != 8 {
		field = 7
	}
	switch k := r.Intn(20); {
	case !x.Open():
		w.ok(x.Begin())
	case k < 7:
		w.ok(x.Load(ref, field))
	case k < 14:
		w.ok(x.Store(ref, field, v))
	case k < 16:
		w.ok(x.Make(2, 1))
	case k < 17:
		w.ok(x.Park())
	default:
		w.ok(x.Commit())
	}
}

// patch: what a block wrote is so from its moment on, though it becomes certain later.
func (w *world) patch(states []*heap.Heap, moment int, wrote map[api.Val]int) {
	for ref, fields := range wrote {
		for field := range 16 {
			if v, e := w.m.Heap().Load(ref, field); fields>>field&1 == 1 && e == api.OK {
				for _, h := range states[min(moment, len(states)):] {
					h.Store(ref, field, v)
				}
			}
		}
	}
}

// snapshots: what each attempt read was so at its Since; of a block that is not certain yet.
func (w *world) snapshots(states []*heap.Heap) {
	for n, x := range w.x {
		if !x.Open() || x.Certain() || x.Since() == 0 {
			continue
		}
		for _, read := range x.Reads() {
			if v, e := states[x.Since()].Load(read.Ref, read.Field); e == api.OK && v != read.V {
				w.t.Fatal("no snapshot", n, read, v, e, x.Since())
			}
		}
	}
}
