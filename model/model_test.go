package model_test

import (
	"math/rand"
	"reflect"
	"strings"
	"testing"

	"gantlet/api"
	"gantlet/asm"
	"gantlet/graph"
	"gantlet/model"
	"gantlet/value"
)

func num(n int) api.Val { return value.Number(n) }

func ref(gen, addr int) api.Val { v, _ := value.Of(gen, addr); return v }

var root = ref(1, 1)

// program reads a program, lines parted by semicolons.
func program(t *testing.T, s string) []api.Instr {
	t.Helper()
	p, line, e := asm.Parse(strings.ReplaceAll(s, "; ", "\n") + "\n")
	if e != api.OK {
		t.Fatal(s, line, e)
	}
	return p
}

func made(t *testing.T, progs ...string) *model.Model {
	t.Helper()
	var l [][]api.Instr
	for _, s := range progs {
		l = append(l, program(t, s))
	}
	m, e := model.New(l)
	if e != api.OK {
		t.Fatal(progs, e)
	}
	return m
}

func plain(t, pc int, news ...api.Val) api.Event {
	return api.Event{Kind: api.EPlain, Thread: t, PC: pc, News: news}
}

func block(t, pc int, news ...api.Val) api.Event {
	return api.Event{Kind: api.EBlock, Thread: t, PC: pc, News: news}
}

func fail(t, pc int, e api.Errno) api.Event {
	return api.Event{Kind: api.EFail, Thread: t, PC: pc, E: e}
}

// does: the model does these.
func does(t *testing.T, m *model.Model, l ...api.Event) {
	t.Helper()
	for _, v := range l {
		if e := m.Do(v); e != api.OK {
			t.Fatal(v, e)
		}
	}
}

// refuses: it refuses them, and nothing happens.
func refuses(t *testing.T, m *model.Model, l ...api.Event) {
	t.Helper()
	for _, v := range l {
		objs := m.Objects()
		r, _ := m.Report(v.Thread)
		if e := m.Do(v); e != api.ErrModel {
			t.Fatal(v, e)
		}
		if s, _ := m.Report(v.Thread); !reflect.DeepEqual(r, s) || !reflect.DeepEqual(objs, m.Objects()) {
			t.Fatal("something has happened", v)
		}
	}
}

func report(t *testing.T, m *model.Model, th int, s api.Status, e api.Errno, pc int, emits ...api.Val) api.Report {
	t.Helper()
	r, ok := m.Report(th)
	if !ok || r.Status != s || r.E != e || r.PC != pc || !value.Same(r.Emits, emits) {
		t.Fatal("report", r, ok)
	}
	return r
}

func TestNew(t *testing.T) { // P20.1
	halt := program(t, "halt")
	many := make([][]api.Instr, 65)
	for i := range many {
		many[i] = halt
	}
	for _, c := range []struct {
		l [][]api.Instr
		e api.Errno
	}{{nil, api.ErrArg}, {many, api.ErrArg}, {many[:64], api.OK}, {[][]api.Instr{halt, nil}, api.ErrCheck}, {[][]api.Instr{program(t, strings.Repeat("begin; ", 8)+"begin"), nil}, api.ErrDepth}} {
		if m, e := model.New(c.l); e != c.e || (m != nil) != (e == api.OK) {
			t.Error(len(c.l), e)
		}
	}
	m := made(t, "halt", "emit r0")
	report(t, m, 1, api.Running, api.OK, 0)
	l := m.Objects()
	if len(l) != 1 || l[0].Ref != root || l[0].Head != (api.Head{Gen: 1, Fields: 16, Mask: 255, State: api.Shared}) || l[0].F[7] != value.Nil() || l[0].F[8] != num(0) || len(l[0].F) != 16 {
		t.Error(l)
	}
	l[0].F[8] = num(9)
	if v, e := m.Has(root, 8); v != num(0) || e != api.OK {
		t.Error("an answer is one's own")
	}
}

func TestNobodyMadeIt(t *testing.T) { // P20.3
	for _, m := range []*model.Model{nil, {}} {
		m.Finish()
		if k, pc := m.Next(0); m.Do(plain(0, 0)) != api.ErrNil || k != api.NoEvent || pc != 0 || m.Objects() != nil || m.Fork() != nil {
			t.Error("zeros")
		}
		if r, ok := m.Report(0); ok || !reflect.DeepEqual(r, api.Report{}) {
			t.Error(r)
		}
		if v, e := m.Has(root, 0); v != (api.Val{}) || e != api.ErrNil {
			t.Error(v, e)
		}
	}
}

func TestPlain(t *testing.T) { // P20.2, P20.3, the example
	m := made(t, "root r0; get r1 r0 8; emit r1; halt")
	if k, pc := m.Next(0); k != api.EPlain || pc != 1 {
		t.Error(k, pc)
	}
	refuses(t, m, plain(0, 0), plain(0, 2), plain(1, 1), plain(-1, 1), block(0, 1), plain(0, 1, ref(5, 5)), api.Event{PC: 1}, api.Event{Kind: 4, PC: 1}, api.Event{Kind: -1, PC: 1})
	report(t, m, 0, api.Running, 0, 0)
	v := plain(0, 1)
	v.Begin, v.Moment, v.End = 9, -5, 3 // not looked at
	does(t, m, v)
	report(t, m, 0, api.Running, 0, 2)
	if k, pc := m.Next(0); k != api.NoEvent || pc != 0 {
		t.Error(k, pc)
	}
	refuses(t, m, plain(0, 1), plain(0, 2), plain(0, 3))
	m.Finish()
	report(t, m, 0, api.Halted, 0, 3, num(0))
	refuses(t, m, plain(0, 3))
	if r, ok := m.Report(1); ok || !reflect.DeepEqual(r, api.Report{}) {
		t.Error(r)
	}
}

func TestGoOn(t *testing.T) { // the word 'to go on'
	m := made(t, "const r0 4; emit r0", "nil r1; emit r0; add r1 r1 r1; halt", ":a; const r0 4; jump @a", "const r1 1; const r2 524287; :a; jumpz r2 @b; sub r2 r2 r1; jump @a; :b; halt", "const r1 1; :a; emit r1; add r2 r2 r1; jump @a", ":a; jump @a; get r0 r0 0")
	m.Finish()
	report(t, m, 0, api.Halted, 0, 2, num(4))
	report(t, m, 1, api.Failed, api.ErrKind, 2, num(0))
	r := report(t, m, 2, api.Running, 0, 0)
	if r.Regs[0] != num(0) {
		t.Error("it stays", r)
	}
	report(t, m, 3, api.Running, 0, 0) // 3 times 524287, and more
	report(t, m, 4, api.Running, 0, 0)
	for th := range 6 {
		if k, pc := m.Next(th); k != api.NoEvent || pc != 0 {
			t.Error(th, k, pc)
		}
	}
	refuses(t, m, plain(5, 1), plain(5, 0))
	exact := func(n int) string { // n rounds of three, two ahead, one behind
		return "const r1 1; const r2 " + value0(n) + "; :a; jumpz r2 @b; sub r2 r2 r1; jump @a; :b; halt"
	}
	m = made(t, exact((api.MaxSteps-3)/3), exact((api.MaxSteps-3)/3+1)) // 3 n + 3 of them
	m.Finish()
	report(t, m, 0, api.Halted, 0, 5)
	report(t, m, 1, api.Running, 0, 0)
}

func value0(n int) string { // a number as a text
	s := ""
	for ; n > 0; n /= 10 {
		s = string(rune('0'+n%10)) + s
	}
	return s
}

func TestMemory(t *testing.T) { // the words 'what a field has', 'an instruction of memory does'
	m := made(t, "root r0; const r1 5; set r0 8 r1; new r2 3 3; set r2 2 r1; new r3 1 1; set r2 0 r3; set r3 0 r0; set r0 1 r2; get r4 r0 1; free r2", "root r0; get r1 r0 1; get r2 r1 2; emit r2; new r3 1 0; free r3; set r3 0 r2")
	a, b := ref(7, 40), ref(3, 20)
	does(t, m, plain(0, 2), plain(0, 3, a), plain(0, 4), plain(0, 5, b), plain(0, 6), plain(0, 7))
	want := []api.Object{{Ref: b, Head: api.Head{Gen: 3, Fields: 1, Mask: 1, State: api.Private}, F: []api.Val{root}}, {Ref: a, Head: api.Head{Gen: 7, Fields: 3, Mask: 3, State: api.Private}, F: []api.Val{b, value.Nil(), num(5)}}}
	if l := m.Objects(); len(l) != 3 || !reflect.DeepEqual(l[1:], want) {
		t.Error(l)
	}
	does(t, m, plain(0, 8)) // both are shared
	for _, o := range m.Objects() {
		if o.Head.State != api.Shared {
			t.Error(o)
		}
	}
	does(t, m, plain(0, 9))
	refuses(t, m, plain(0, 10), fail(0, 10, api.ErrFreed), fail(0, 10, api.OK), fail(0, 10, api.ErrHeap), fail(0, 10, api.ErrClock), fail(0, 10, api.ErrReads), fail(0, 10, api.ErrUndo))
	does(t, m, fail(0, 10, api.ErrFree))
	r := report(t, m, 0, api.Failed, api.ErrFree, 10)
	if r.Regs[4] != a {
		t.Error(r)
	}
	refuses(t, m, fail(0, 10, api.ErrFree))
	c := ref(1, 30)
	does(t, m, plain(1, 1), plain(1, 2), plain(1, 4, c), plain(1, 5))
	if _, e := m.Has(c, 0); e != api.ErrFreed || len(m.Objects()) != 3 {
		t.Error(e)
	}
	refuses(t, m, fail(1, 6, api.ErrField))
	does(t, m, fail(1, 6, api.ErrFreed))
	report(t, m, 1, api.Failed, api.ErrFreed, 6, num(5))
	for _, x := range []struct {
		ref   api.Val
		field int
		v     api.Val
		e     api.Errno
	}{{num(1), 0, api.Val{}, api.ErrKind}, {api.Val{}, 0, api.Val{}, api.ErrKind}, {api.Val{K: api.Ref, N: 4}, 0, api.Val{}, api.ErrKind}, {value.Nil(), 99, api.Val{}, api.ErrDeref}, {c, 99, api.Val{}, api.ErrFreed}, {ref(9, 9), 0, api.Val{}, api.ErrFreed}, {a, 3, api.Val{}, api.ErrField}, {a, -1, api.Val{}, api.ErrField}, {a, 0, b, api.OK}} {
		if v, e := m.Has(x.ref, x.field); v != x.v || e != x.e {
			t.Error(x, v, e)
		}
	}
}

func TestErrors(t *testing.T) { // P20.2: the errors with which units end
	for _, c := range []struct {
		p  string
		pc int
		e  api.Errno
	}{
		{"get r0 r0 0", 0, api.ErrKind}, {"nil r0; get r0 r0 0", 1, api.ErrDeref}, {"new r0 1 0; get r0 r0 1", 1, api.ErrField}, {"new r0 1 0; free r0; get r0 r0 1", 2, api.ErrFreed},
		{"root r0; set r0 0 r1", 1, api.ErrKind}, {"root r0; set r0 8 r0", 1, api.ErrKind}, {"nil r0; set r0 0 r1", 1, api.ErrDeref}, {"set r0 0 r1", 0, api.ErrKind}, {"new r0 1 0; set r0 1 r0", 1, api.ErrField}, {"new r0 1 0; free r0; set r0 1 r1", 2, api.ErrFreed},
		{"free r0", 0, api.ErrKind}, {"nil r0; free r0", 1, api.ErrDeref}, {"root r0; free r0", 1, api.ErrFree}, {"new r0 1 0; free r0; free r0", 2, api.ErrFreed},
		{"begin; nil r0; add r0 r0 r0; end", 0, api.ErrKind}, {"begin; root r0; free r0; end", 0, api.ErrFree}, {"begin; new r0 1 0; free r0; free r0; end", 0, api.ErrFreed}, {"begin; get r0 r0 0; else; end", 0, api.ErrKind},
		{"begin; begin; retry; else; get r0 r0 0; end; end", 0, api.ErrKind},
	} {
		m := made(t, c.p)
		for pc, n := 0, 0; pc < c.pc; pc++ { // what stands ahead
			if k, at := m.Next(0); k == api.EPlain && at < c.pc {
				v := plain(0, at)
				if m.Do(v) != api.OK {
					n++
					v.News = []api.Val{ref(1, 100+n)}
					does(t, m, v)
				}
			}
		}
		before := m.Objects()
		_, pc := m.Next(0)
		for e := range api.Errno(310) {
			special := e == api.ErrHeap || e == api.ErrClock || e == api.ErrReads || e == api.ErrUndo
			if !special && e != c.e {
				refuses(t, m, fail(0, pc, e))
			}
		}
		v := fail(0, pc, c.e)
		v.News = []api.Val{ref(1, 99)}
		refuses(t, m, v, plain(0, pc), block(0, pc))
		does(t, m, fail(0, pc, c.e))
		if r, _ := m.Report(0); pc != c.pc || r.Status != api.Failed || r.E != c.e || r.PC != pc || !reflect.DeepEqual(before, m.Objects()) {
			t.Error(c, r, pc)
		}
	}
}

func TestLimits(t *testing.T) { // P20.2: errors that the model itself never has
	for _, c := range []struct {
		p                  string
		heap, clock, reads bool
	}{{"new r0 1 0", true, false, false}, {"get r0 r0 0", false, false, false}, {"set r0 0 r0", false, true, false}, {"free r0", false, false, false}, {"begin; end", true, true, true}, {"begin; retry; end", true, true, true}} {
		for e, may := range map[api.Errno]bool{api.ErrHeap: c.heap, api.ErrClock: c.clock, api.ErrReads: c.reads, api.ErrUndo: c.reads} {
			m := made(t, "emit r0; "+c.p)
			if got := m.Do(fail(0, 1, e)); (got == api.OK) != may {
				t.Error(c, e, got)
			}
			if r, _ := m.Report(0); may && (r.Status != api.Failed || r.E != e || r.PC != 1 || len(r.Emits) != 1) {
				t.Error(r)
			}
		}
	}
}

func TestNews(t *testing.T) { // P20.2
	m := made(t, "new r0 1 0; begin; new r1 1 1; new r2 2 1; set r2 0 r1; end; new r3 1 0; free r3; new r4 1 0; halt")
	a, b, c, d := ref(1, 50), ref(2, 60), ref(3, 70), ref(1, 70)
	refuses(t, m, plain(0, 0), plain(0, 0, root), plain(0, 0, value.Nil()), plain(0, 0, num(5)), plain(0, 0, api.Val{}), plain(0, 0, api.Val{K: api.Ref, N: 77}), plain(0, 0, a, b))
	does(t, m, plain(0, 0, a))
	refuses(t, m, block(0, 1), block(0, 1, b), block(0, 1, b, b), block(0, 1, a, b), block(0, 1, b, a), block(0, 1, b, c, d), block(0, 1, b, value.Nil()), plain(0, 1, b, c))
	does(t, m, block(0, 1, b, c))
	if v, e := m.Has(c, 0); v != b || e != api.OK {
		t.Error(v, e)
	}
	does(t, m, plain(0, 6, d), plain(0, 7))
	refuses(t, m, plain(0, 8, d)) // it was there
	does(t, m, plain(0, 8, ref(2, 70)))
}

func TestBlock(t *testing.T) { // the word 'a block is done'
	m := made(t, "const r0 1; emit r0; begin; emit r0; new r1 1 0; begin; new r2 1 0; emit r2; root r3; set r3 0 r1; retry; else; root r3; set r3 9 r0; new r4 1 0; emit r4; end; else; emit r3; end; emit r0; halt")
	a, b := ref(4, 44), ref(5, 55)
	refuses(t, m, block(0, 2, a), block(0, 2, a, b, ref(6, 66)), block(0, 2), fail(0, 2, api.ErrKind))
	does(t, m, block(0, 2, a, b)) // a way that was left gives its references back
	report(t, m, 0, api.Running, 0, 20, num(1), num(1), b)
	if v, _ := m.Has(root, 9); v != num(1) {
		t.Error(v)
	}
	if v, _ := m.Has(root, 0); v != value.Nil() || len(m.Objects()) != 3 {
		t.Error(v)
	}
	m.Finish()
	report(t, m, 0, api.Halted, 0, 21, num(1), num(1), b, num(1))

	m = made(t, "begin; begin; retry; else; const r0 3; retry; end; else; emit r0; end")
	does(t, m, block(0, 0))
	report(t, m, 0, api.Running, 0, 10, num(0))
	m = made(t, "begin; emit r0; else; emit r1; emit r1; end")
	does(t, m, block(0, 0))
	report(t, m, 0, api.Running, 0, 6, num(0))
	m = made(t, "begin; retry; end", "begin; retry; else; retry; end", "root r0; begin; get r1 r0 8; jumpz r1 @w; jump @g; :w; retry; :g; end", "root r0; const r1 1; set r0 8 r1", "begin; :a; jump @a; end")
	refuses(t, m, block(0, 0), block(1, 0), block(2, 1), block(4, 0), fail(0, 0, api.ErrKind), fail(4, 0, api.ErrKind))
	if k, pc := m.Next(2); k != api.EBlock || pc != 1 {
		t.Error(k, pc)
	}
	does(t, m, plain(3, 2), block(2, 1))
}

func TestStepsOfABlock(t *testing.T) { // more than MaxSteps instructions: it can't be done now
	body := func(n int) string { // 3 n and 4 of them, with its begin and end
		return "const r2 " + value0(n) + "; :a; jumpz r2 @b; sub r2 r2 r1; jump @a; :b"
	}
	n := (api.MaxSteps - 4) / 3
	m := made(t, "const r1 1; begin; "+body(n)+"; end", "const r1 1; begin; "+body(n+1)+"; end")
	does(t, m, block(0, 1))
	refuses(t, m, block(1, 1))
}

func TestShare(t *testing.T) { // in a block, as in an instruction
	m := made(t, "root r0; new r1 1 1; new r2 1 1; set r1 0 r2; begin; set r0 0 r1; end", "new r1 1 1; root r0; get r2 r0 0; set r1 0 r2; set r0 1 r1; begin; free r2; end")
	does(t, m, plain(0, 1, ref(1, 30)), plain(0, 2, ref(1, 40)), plain(0, 3), plain(1, 0, ref(1, 50)), block(0, 4))
	for _, o := range m.Objects() {
		if (o.Head.State == api.Private) != (o.Ref == ref(1, 50)) {
			t.Error(o)
		}
	}
	does(t, m, plain(1, 2), plain(1, 3), plain(1, 4), block(1, 5))
	if _, e := m.Has(ref(1, 30), 0); e != api.ErrFreed || len(m.Objects()) != 3 {
		t.Error(e)
	}
}

func TestFork(t *testing.T) { // P20.3
	m := made(t, "root r0; const r1 4; emit r1; set r0 8 r1; emit r1; new r2 1 0; set r0 9 r1; halt")
	does(t, m, plain(0, 3))
	f, g := m.Fork(), m.Fork()
	does(t, f, plain(0, 5, ref(1, 20)), plain(0, 6))
	g.Finish()
	report(t, m, 0, api.Running, 0, 4, num(4))
	if v, _ := m.Has(root, 9); v != num(0) || len(m.Objects()) != 1 || len(f.Objects()) != 2 {
		t.Error(v)
	}
	does(t, m, plain(0, 5, ref(9, 90)))
	f.Finish()
	m.Finish()
	report(t, f, 0, api.Halted, 0, 7, num(4), num(4))
	report(t, m, 0, api.Running, 0, 6, num(4), num(4))
}

// some is a program by chance, with blocks, retries and other ways.
func some(r *rand.Rand) string {
	l := []string{"root r0", "root r1", "const r2 1"}
	depth, other := 0, []int{}
	for range r.Intn(25) {
		switch k := r.Intn(14); {
		case k == 0 && depth < 4:
			l, depth, other = append(l, "begin"), depth+1, append(other, 0)
		case k == 1 && depth > 0:
			l, depth, other = append(l, "end"), depth-1, other[:depth-1]
		case k == 2 && depth > 0 && other[depth-1] == 0:
			l, other[depth-1] = append(l, "else"), 1
		case k == 3 && depth > 0 && r.Intn(2) == 0:
			l = append(l, "retry")
		case k < 6:
			l = append(l, []string{"get r3 r1 8", "get r2 r0 9", "get r5 r0 1"}[r.Intn(3)])
		case k < 8:
			l = append(l, []string{"set r0 8 r2", "set r0 9 r2", "set r0 1 r4", "set r4 0 r5"}[r.Intn(4)])
		case k < 10:
			l = append(l, "new r4 2 1")
		case k == 10:
			l = append(l, "emit r3")
		case k == 11:
			l = append(l, []string{"free r4", "free r5"}[r.Intn(2)])
		default:
			l = append(l, "add r2 r2 r2")
		}
	}
	for range depth {
		l = append(l, "end")
	}
	return strings.Join(l, "; ")
}

// try does a thread's next unit, with as many new references as it takes.
func try(m *model.Model, t int, next func() api.Val) (api.Event, bool) {
	k, pc := m.Next(t)
	v := api.Event{Kind: k, Thread: t, PC: pc}
	for range 30 {
		if m.Do(v) == api.OK {
			return v, true
		}
		v.News = append(v.News, next())
	}
	for _, e := range []api.Errno{api.ErrKind, api.ErrDeref, api.ErrFreed, api.ErrField, api.ErrFree} {
		if v := fail(t, pc, e); m.Do(v) == api.OK {
			return v, true
		}
	}
	return api.Event{}, false
}

func TestWhatFollows(t *testing.T) { // P20.4, P20.5, P20.6
	for seed := range int64(300) {
		r := rand.New(rand.NewSource(seed))
		progs := []string{some(r), some(r), some(r)}
		m, other := made(t, progs...), made(t, progs...)
		n := 0
		next := func() api.Val { n++; return ref(1, 100+n) }
		for range 60 {
			th := r.Intn(3)
			reports := make([]api.Report, 3)
			for i := range reports {
				reports[i], _ = m.Report(i)
			}
			v, ok := try(m, th, next)
			if !ok {
				continue
			}
			for i := range reports {
				if now, _ := m.Report(i); i != th && !reflect.DeepEqual(now, reports[i]) {
					t.Fatal("another thread is changed", seed, v)
				}
			}
			w := v
			w.News = nil
			for _, x := range v.News { // other names
				w.News = append(w.News, ref(2, 5000-value.Addr(x)))
			}
			if e := other.Do(w); e != api.OK {
				t.Fatal("names", seed, w, e)
			}
			alike(t, m, other)
		}
	}
}

// alike: private objects are their owners' alone, and both are the same, names aside.
func alike(t *testing.T, m, other *model.Model) {
	t.Helper()
	var regs [][]api.Val
	roots, others := []api.Val{root}, []api.Val{root}
	for i := range 3 {
		r, _ := m.Report(i)
		s, _ := other.Report(i)
		regs = append(regs, r.Regs[:])
		roots, others = append(append(roots, r.Regs[:]...), r.Emits...), append(append(others, s.Regs[:]...), s.Emits...)
		if r.Status != s.Status || r.E != s.E || r.PC != s.PC {
			t.Fatal("reports", r, s)
		}
	}
	if e := graph.Sound(m.Objects(), root, regs); e != api.OK {
		t.Fatal("private", m.Objects(), regs)
	}
	if !graph.Alike(m.Objects(), roots, other.Objects(), others) {
		t.Fatal("names", m.Objects(), other.Objects())
	}
}
