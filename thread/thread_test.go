package thread_test

import (
	"math/rand"
	"reflect"
	"strings"
	"testing"

	"gantlet/api"
	"gantlet/asm"
	"gantlet/mem"
	"gantlet/thread"
	"gantlet/value"
)

func num(n int) api.Val { return value.Number(n) }

// program reads a program, lines parted by semicolons.
func program(t *testing.T, s string) []api.Instr {
	t.Helper()
	p, line, e := asm.Parse(strings.ReplaceAll(s, "; ", "\n") + "\n")
	if e != api.OK {
		t.Fatal(s, line, e)
	}
	return p
}

func conf() api.Conf {
	return api.Conf{Words: 200, Orecs: 64, Reads: 10, Undo: 10, Clock: 100, Manager: api.Greedy}
}

// world is a memory, its threads, and how many steps there were.
type world struct {
	t      *testing.T
	m      *mem.Mem
	x      []*thread.Thread
	now    int
	events []api.Event
}

func made(t *testing.T, c api.Conf, progs ...string) *world {
	t.Helper()
	m, e := mem.New(c, len(progs))
	if e != api.OK {
		t.Fatal(e)
	}
	w := &world{t: t, m: m}
	for i, s := range progs {
		x, e := thread.New(m, i, program(t, s))
		if e != api.OK {
			t.Fatal(e)
		}
		w.x = append(w.x, x)
	}
	return w
}

// steps takes steps of these kinds; but of the last one none tells an event.
func (w *world) steps(t int, kinds ...api.StepKind) (api.Event, bool) {
	w.t.Helper()
	for i, k := range kinds {
		w.now++
		s, v, is := w.x[t].Step(w.now)
		if s.Kind != k || s.Thread != t {
			w.t.Fatalf("step %d of %v: %v", i, kinds, s)
		}
		if i == len(kinds)-1 {
			return v, is
		}
		if is || !reflect.DeepEqual(v, api.Event{}) {
			w.t.Fatalf("step %d of %v: %v", i, kinds, v)
		}
	}
	return api.Event{}, false
}

// quiet takes steps that tell no event.
func (w *world) quiet(t int, kinds ...api.StepKind) {
	w.t.Helper()
	if v, is := w.steps(t, kinds...); is {
		w.t.Fatal("an event", v)
	}
}

// event takes steps the last of which tells that event; its begin is told as at so many steps ahead of it, its moment likewise.
func (w *world) event(t int, want api.Event, begin, moment int, kinds ...api.StepKind) {
	w.t.Helper()
	v, is := w.steps(t, kinds...)
	want.Thread, want.Begin, want.Moment, want.End = t, w.now-begin, w.now-moment, w.now
	if !is || !reflect.DeepEqual(v, want) {
		w.t.Fatal("event", v, want)
	}
}

// run drives a thread till it is done, or blocked.
func (w *world) run(t int) api.Report {
	w.t.Helper()
	for range 5000 {
		if r := w.x[t].Report(); r.Status != api.Running {
			return r
		}
		w.now++
		if _, v, is := w.x[t].Step(w.now); is {
			w.events = append(w.events, v)
		}
	}
	w.t.Fatal("no end")
	return api.Report{}
}

func (w *world) report(t int, s api.Status, e api.Errno, pc int, emits ...api.Val) {
	w.t.Helper()
	r := w.x[t].Report()
	if r.Status != s || r.E != e || r.PC != pc || !value.Same(r.Emits, emits) {
		w.t.Fatal("report", r)
	}
	if w.x[t].Done() != (s == api.Halted || s == api.Failed) || w.x[t].Can() == w.x[t].Done() {
		w.t.Error("Done, Can")
	}
}

const (
	loc, look, rec, load, store, lock, free, clk, chk = api.SLocal, api.SLook, api.SOrec, api.SLoad, api.SStore, api.SLock, api.SFree, api.SClock, api.SCheck
	undo, mark, mk, ep, wait, stop                    = api.SUndo, api.SMark, api.SHeap, api.SEpoch, api.SWait, api.SStop
)

func TestNew(t *testing.T) { // P19.1
	m, _ := mem.New(conf(), 2)
	halt := program(t, "halt")
	for _, c := range []struct {
		m *mem.Mem
		t int
		p []api.Instr
		e api.Errno
	}{
		{nil, 9, nil, api.ErrNil}, {&mem.Mem{}, 0, halt, api.ErrNil}, {m, -1, nil, api.ErrRange}, {m, 2, nil, api.ErrRange},
		{m, 0, nil, api.ErrCheck}, {m, 0, program(t, "begin"), api.ErrCheck}, {m, 0, program(t, strings.Repeat("begin; ", 8)+"begin"), api.ErrDepth},
	} {
		if x, e := thread.New(c.m, c.t, c.p); x != nil || e != c.e {
			t.Error(c, e)
		}
	}
	p := program(t, "const r0 7; emit r0; halt")
	x, e := thread.New(m, 1, p)
	if e != api.OK {
		t.Fatal(e)
	}
	p[0].B = 9 // what is handed in is not kept
	x.Step(1)
	if r := x.Report(); r.Regs[0] != num(7) || r.PC != 1 {
		t.Error(r)
	}
}

func TestNobodyMadeIt(t *testing.T) {
	for _, x := range []*thread.Thread{nil, {}} {
		s, v, is := x.Step(1)
		x.Undone(nil)
		if a, ok := x.Attempt(); s != (api.Step{}) || !reflect.DeepEqual(v, api.Event{}) || is || ok || !reflect.DeepEqual(a, api.Attempt{}) || !reflect.DeepEqual(x.Report(), api.Report{}) || x.Done() || x.Can() || x.Held() != nil {
			t.Error("zeros")
		}
	}
}

func TestLocal(t *testing.T) { // P19.2, P19.3, P19.4, the example
	w := made(t, conf(), "const r0 7; emit r0", "nil r1; jumpz r1 @a; halt; :a; emit r1; add r1 r1 r1; halt", "halt")
	w.report(0, api.Running, 0, 0)
	w.quiet(0, loc, loc)
	w.report(0, api.Running, 0, 2, num(7))
	w.quiet(0, loc, stop, stop)
	w.report(0, api.Halted, 0, 2, num(7))
	w.quiet(1, loc, loc, loc, loc, stop) // an error outside of blocks: no event tells it
	w.report(1, api.Failed, api.ErrKind, 4, value.Nil())
	w.quiet(2, loc, stop)
	w.report(2, api.Halted, 0, 0)
	if w.x[1].Report().Regs[1] != value.Nil() {
		t.Error("registers stay")
	}
}

func TestPlain(t *testing.T) { // P19.2: units outside of blocks
	w := made(t, conf(), "root r0; const r1 5; set r0 8 r1; get r2 r0 8; new r3 2 1; set r3 1 r2; set r0 0 r3; free r3")
	w.quiet(0, loc, loc, look, rec, lock, store)
	w.event(0, api.Event{Kind: api.EPlain, PC: 2}, 4, 0, clk)
	w.report(0, api.Running, 0, 2)
	w.quiet(0, free)
	w.report(0, api.Running, 0, 3)
	w.quiet(0, look, rec, load)
	w.event(0, api.Event{Kind: api.EPlain, PC: 3}, 3, 1, rec)
	w.now++
	s, v, is := w.x[0].Step(w.now)
	made := w.x[0].Report().Regs[3]
	if s.Kind != mk || !is || !reflect.DeepEqual(v, api.Event{Kind: api.EPlain, PC: 4, Begin: w.now, Moment: w.now, End: w.now, News: []api.Val{made}}) {
		t.Error(s, v)
	}
	w.event(0, api.Event{Kind: api.EPlain, PC: 5}, 0, 0, store) // its own
	if l := w.x[0].Held(); !value.Same(l, []api.Val{w.m.Heap().Root(), made}) {
		t.Error(l)
	}
	w.quiet(0, look, mark, rec, lock, store)
	w.event(0, api.Event{Kind: api.EPlain, PC: 6}, 5, 0, clk)
	w.quiet(0, free)
	w.quiet(0, look, rec, load)
	w.event(0, api.Event{Kind: api.EFail, PC: 7, E: api.ErrFree}, 3, 1, rec)
	w.report(0, api.Failed, api.ErrFree, 7)
	if r := w.x[0].Report(); r.Regs[2] != num(5) {
		t.Error(r)
	}
}

func TestPlainErrors(t *testing.T) { // P19.2: a write by a record tells its error when it is done
	w := made(t, conf(), "root r0; set r0 0 r1", "get r1 r0 0", "new r1 16 0; jump @a; :a; new r1 16 0; new r1 16 0; new r1 16 0; new r1 16 0; new r1 16 0; new r1 16 0; new r1 16 0; new r1 16 0; new r1 16 0; new r1 16 0; new r1 16 0; new r1 16 0")
	w.quiet(0, loc, look, rec, lock, store)
	w.event(0, api.Event{Kind: api.EFail, PC: 1, E: api.ErrKind}, 4, 1, free)
	w.report(0, api.Failed, api.ErrKind, 1)
	w.event(1, api.Event{Kind: api.EFail, PC: 0, E: api.ErrKind}, 0, 0, look)
	w.report(1, api.Failed, api.ErrKind, 0)
	if r := w.run(2); r.Status != api.Failed || r.E != api.ErrHeap || w.events[len(w.events)-1].Kind != api.EFail {
		t.Error(r)
	}
}

func TestBlock(t *testing.T) { // P19.2, P19.3, P19.4
	w := made(t, conf(), "root r0; const r1 1; begin; get r2 r0 8; emit r2; add r2 r2 r1; set r0 8 r2; begin; new r3 1 0; end; end; emit r2")
	w.quiet(0, loc, loc)
	if _, ok := w.x[0].Attempt(); ok {
		t.Error("no attempt")
	}
	w.quiet(0, ep)
	began := w.now
	w.report(0, api.Running, 0, 2)
	w.quiet(0, clk)
	since := w.now
	w.quiet(0, look, rec, load, rec, loc, loc)
	a, ok := w.x[0].Attempt()
	if !ok || !reflect.DeepEqual(a, api.Attempt{Thread: 0, PC: 2, Began: began, Since: since, Reads: []api.Read{{Ref: w.m.Heap().Root(), Field: 8, V: num(0)}}}) {
		t.Error(a, ok)
	}
	w.quiet(0, look, rec, lock, store, loc, mk, loc)
	w.report(0, api.Running, 0, 2) // as it began
	if r := w.x[0].Report(); r.Regs[2] != num(0) || len(r.Emits) != 0 {
		t.Error(r)
	}
	objs := w.m.Heap().Objects()
	made := objs[len(objs)-1].Ref
	if l := w.x[0].Held(); !value.Same(l, []api.Val{w.m.Heap().Root(), made, w.m.Heap().Root()}) {
		t.Error(l)
	}
	f := w.m.Heap().Fork()
	w.x[0].Undone(f)
	if v, _ := f.Load(f.Root(), 8); v != num(0) || len(f.Objects()) != 1 {
		t.Error("Undone")
	}
	w.quiet(0, clk)
	w.event(0, api.Event{Kind: api.EBlock, PC: 2, News: []api.Val{made}}, w.now+1-began, 1, chk)
	if _, ok := w.x[0].Attempt(); ok {
		t.Error("it is certain")
	}
	w.report(0, api.Running, 0, 10, num(0))
	w.quiet(0, free, ep, ep, ep)
	w.report(0, api.Running, 0, 11, num(0))
	w.quiet(0, loc, loc)
	w.report(0, api.Halted, 0, 12, num(0), num(1))
}

func TestBegan(t *testing.T) { // Began is told by txn's steps alone
	w := made(t, conf(), "begin; const r0 1; begin; end; end; root r1; get r0 r1 8")
	for i, began := range []int{1, 1, 0, 0, 0, 1, 0, 0, 0, 0, 0} {
		w.now++
		if s, _, _ := w.x[0].Step(w.now); s.Began != began {
			t.Error(i, s)
		}
	}
}

func TestElse(t *testing.T) { // P19.2: example 8 of the whole
	w := made(t, conf(), "root r0; const r1 5; begin; set r0 8 r1; const r1 6; emit r1; new r4 1 0; begin; set r0 9 r1; begin; emit r1; retry; end; end; else; get r2 r0 8; emit r1; end; emit r2")
	w.quiet(0, loc, loc, ep, clk, look, rec, lock, store, loc, loc, mk, loc, look, rec, store, loc, loc)
	w.quiet(0, undo, undo, mk)
	w.report(0, api.Running, 0, 2)
	w.quiet(0, loc) // rolled back: the other way begins, its record is held on
	w.quiet(0, look, rec, load, loc, clk)
	v, is := w.steps(0, chk)
	if !is || v.Kind != api.EBlock || v.PC != 2 || len(v.News) != 0 {
		t.Error(v)
	}
	w.quiet(0, free, ep, ep, ep, loc, loc)
	w.report(0, api.Halted, 0, 19, num(5), num(0))
	if v, _ := w.m.Heap().Load(w.m.Heap().Root(), 8); v != num(0) || len(w.m.Heap().Objects()) != 1 {
		t.Error(v)
	}
	x := made(t, conf(), "begin; const r0 1; else; const r0 2; end; emit r0", "begin; begin; retry; else; retry; end; else; const r0 3; end; emit r0")
	x.quiet(0, ep, clk, loc, loc) // the first way ends: on at the OEnd
	x.event(0, api.Event{Kind: api.EBlock}, 4, 3, ep)
	x.quiet(0, loc)
	x.report(0, api.Running, 0, 6, num(1))
	x.quiet(1, ep, clk, loc, loc, loc, loc)
	x.event(1, api.Event{Kind: api.EBlock}, 6, 5, ep)
	x.run(1)
	x.report(1, api.Halted, 0, 10, num(3))
}

func TestBackToAMark(t *testing.T) { // P19.2: what was done ahead of an inner block stays
	w := made(t, conf(), "root r0; const r1 5; begin; set r0 8 r1; new r2 1 0; emit r1; begin; const r1 6; set r0 8 r1; set r0 9 r1; new r3 1 0; emit r1; retry; else; get r4 r0 8; emit r4; end; set r0 10 r1; end; emit r1")
	r := w.run(0)
	root := w.m.Heap().Objects()[0]
	if r.Status != api.Halted || !value.Same(r.Emits, []api.Val{num(5), num(5), num(5)}) || root.F[8] != num(5) || root.F[9] != num(0) || root.F[10] != num(5) || len(w.m.Heap().Objects()) != 2 || r.Regs[3] != num(0) {
		t.Error(r, root)
	}
	if v := w.events[0]; len(v.News) != 1 || v.News[0] != r.Regs[2] {
		t.Error(v)
	}
}

func TestUndone(t *testing.T) { // P19.4: of a block, and of a plain access
	w := made(t, conf(), "root r0; set r0 8 r0; halt", "root r0; const r1 3; set r0 8 r1", "root r0; const r1 4; begin; set r0 9 r1; end")
	w.steps(1, loc, loc, look, rec, lock, store)
	w.steps(2, loc, loc, ep, clk, look)
	f := w.m.Heap().Fork()
	for i, x := range w.x {
		x.Undone(f)
		if v, _ := f.Load(f.Root(), 8); v != num([]int{3, 0, 0}[i]) {
			t.Error(i, v)
		}
	}
	w.steps(1, clk)
	f = w.m.Heap().Fork()
	w.x[1].Undone(f)
	if v, _ := f.Load(f.Root(), 8); v != num(3) {
		t.Error(v)
	}
}

func TestRetry(t *testing.T) { // P19.2: example 7 of the whole
	w := made(t, conf(), "root r0; begin; get r1 r0 8; jumpz r1 @wait; jump @go; :wait; emit r1; retry; :go; end; emit r1", "root r0; const r1 4; set r0 9 r1; set r0 8 r1")
	w.quiet(0, loc, ep, clk, look, rec, load, rec, loc, loc)
	w.quiet(0, loc) // park
	w.quiet(0, ep)
	w.report(0, api.Blocked, 0, 1)
	w.quiet(0, wait, wait)
	if r := w.x[0].Report(); r.Regs[1] != num(0) || w.m.Slots().In(0) {
		t.Error(r)
	}
	w.quiet(1, loc, loc, look, rec, lock)
	w.quiet(0, wait) // somebody has the record
	w.steps(1, store, clk)
	w.quiet(0, wait)
	w.steps(1, free)
	w.quiet(0, rec) // it is let go, with another version: it looks again
	w.report(0, api.Running, 0, 1)
	w.quiet(0, ep, clk, look, rec, load, rec, loc, loc, loc, ep)
	w.report(0, api.Blocked, 0, 1)
	w.run(1)
	w.quiet(0, rec, ep, clk, look, rec, load, rec, loc, loc)
	v, is := w.steps(0, ep)
	if !is || v.Begin != 2 || v.PC != 1 || v.Kind != api.EBlock {
		t.Error("a unit begins in its first attempt", v)
	}
	w.quiet(0, loc, loc)
	w.report(0, api.Halted, 0, 9, num(4))
	x := made(t, conf(), "begin; retry; end")
	x.quiet(0, ep, clk, loc, ep, wait, wait)
	x.report(0, api.Blocked, 0, 0)
}

func TestBlockFails(t *testing.T) { // P19.2, P19.7
	for _, c := range []struct {
		body string
		e    api.Errno
	}{{"nil r2; add r1 r1 r2", api.ErrKind}, {"get r2 r1 0", api.ErrKind}, {"nil r2; set r2 0 r1", api.ErrDeref}, {"free r0", api.ErrFree}, {"get r1 r0 15; begin; nil r2; less r2 r2 r2; end", api.ErrKind}} {
		w := made(t, conf(), "root r0; const r1 3; emit r1; begin; emit r1; set r0 8 r1; "+c.body+"; end")
		r := w.run(0)
		if r.Status != api.Failed || r.E != c.e || r.PC != 3 || r.Regs[2] != num(0) || r.Regs[1] != num(3) || !value.Same(r.Emits, []api.Val{num(3)}) {
			t.Error(c, r)
		}
		if len(w.events) != 1 || !reflect.DeepEqual(w.events[0], api.Event{Kind: api.EFail, PC: 3, Begin: 4, Moment: 5, End: w.now, E: c.e}) {
			t.Error(c, w.events)
		}
		if v, _ := w.m.Heap().Load(w.m.Heap().Root(), 8); v != num(0) || w.m.Slots().In(0) || w.m.Stamp(0) != 0 || len(w.m.Orecs().Of(0)) != 0 {
			t.Error(c, "taken back")
		}
		w.quiet(0, stop)
	}
}

func TestGivesWay(t *testing.T) { // P19.2, P19.7
	w := made(t, conf(), "root r0; begin; get r1 r0 8; end; halt", "root r0; const r1 5; begin; emit r1; const r1 6; set r0 8 r1; get r2 r0 9; end; emit r1")
	w.quiet(0, loc, ep, clk)
	w.quiet(1, loc, loc, ep, clk, loc, loc, look, rec, lock, store)
	w.quiet(0, look, wait)
	w.quiet(1, wait, undo, free, ep)
	w.report(1, api.Running, 0, 2)
	if r := w.x[1].Report(); r.Regs[1] != num(5) || len(w.x[1].Held()) != 1 {
		t.Error(r)
	}
	w.quiet(1, wait) // for the older one
	if _, ok := w.x[1].Attempt(); ok {
		t.Error("no attempt is open")
	}
	w.report(1, api.Running, 0, 2)
	w.run(0)
	if r := w.run(1); r.Status != api.Halted || !value.Same(r.Emits, []api.Val{num(5), num(6)}) {
		t.Error(r)
	}
	if v := w.events[len(w.events)-1]; v.Begin != 6 || v.Kind != api.EBlock {
		t.Error("a unit begins in its first attempt", v)
	}
}

// P19.5, P19.6: programs by chance, alone and with others.
func TestRandomly(t *testing.T) {
	for seed := range int64(300) {
		r := rand.New(rand.NewSource(seed))
		c := conf()
		c.Words, c.Orecs = 120, 1+r.Intn(9)
		one := made(t, c, some(r))
		n := len(one.x[0].Report().Emits) // none yet
		for n = 0; one.x[0].Report().Status == api.Running; n++ {
			one.now++
			one.x[0].Step(one.now)
		}
		if n > 60*40+32*c.Words {
			t.Fatal("alone", seed, n)
		}
		w := made(t, c, some(r), some(r), some(r))
		last := map[int]api.Event{}
		for range 2000 {
			w.now++
			u := r.Intn(3)
			s, v, is := w.x[u].Step(w.now)
			if s.Thread != u {
				t.Fatal(s)
			}
			if !is {
				continue
			}
			if v.Thread != u || v.Begin <= last[u].End || v.Moment < v.Begin || v.Moment > v.End || v.End != w.now {
				t.Fatal(seed, v, last[u])
			}
			last[u] = v
		}
	}
}

// some is a program without jumps, of at most 40 instructions.
func some(r *rand.Rand) string {
	l := []string{"root r0", "root r1", "const r2 1"}
	depth := 0
	other := []int{}
	for range r.Intn(25) {
		switch k := r.Intn(12); {
		case k == 0 && depth < 4:
			l, depth, other = append(l, "begin"), depth+1, append(other, 0)
		case k == 1 && depth > 0:
			l, depth, other = append(l, "end"), depth-1, other[:depth-1]
		case k == 2 && depth > 0 && other[depth-1] == 0:
			l, other[depth-1] = append(l, "else"), 1
		case k == 3 && depth > 0 && r.Intn(2) == 0:
			l = append(l, "retry")
		case k < 6:
			l = append(l, []string{"get r3 r1 8", "get r2 r0 9"}[r.Intn(2)])
		case k < 8:
			l = append(l, []string{"set r0 8 r2", "set r0 9 r2", "set r0 1 r4"}[r.Intn(3)])
		case k == 8:
			l = append(l, "new r4 2 1")
		case k == 9:
			l = append(l, "emit r3")
		default:
			l = append(l, "add r2 r2 r2")
		}
	}
	for range depth {
		l = append(l, "end")
	}
	return strings.Join(l, "; ")
}
