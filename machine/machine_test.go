package machine_test

import (
	"math/rand"
	"reflect"
	"strings"
	"testing"

	"gantlet/api"
	"gantlet/asm"
	"gantlet/graph"
	"gantlet/machine"
	"gantlet/value"
)

func num(n int) api.Val { return value.Number(n) }

func program(t *testing.T, s string) []api.Instr {
	t.Helper()
	p, line, e := asm.Parse(strings.ReplaceAll(s, "; ", "\n") + "\n")
	if e != api.OK {
		t.Fatal(s, line, e)
	}
	return p
}

func programs(t *testing.T, l ...string) [][]api.Instr {
	t.Helper()
	var progs [][]api.Instr
	for _, s := range l {
		progs = append(progs, program(t, s))
	}
	return progs
}

func conf() api.Conf {
	return api.Conf{Words: 200, Orecs: 8, Reads: 10, Undo: 10, Clock: 1000, Manager: api.Greedy}
}

func made(t *testing.T, c api.Conf, l ...string) *machine.Machine {
	t.Helper()
	m, e := machine.New(c, programs(t, l...))
	if e != api.OK {
		t.Fatal(e)
	}
	return m
}

func TestCheckNew(t *testing.T) { // P21.1
	halt := program(t, "halt")
	many := make([][]api.Instr, 65)
	for i := range many {
		many[i] = halt
	}
	bad := conf()
	bad.Words = 16
	deep := program(t, strings.Repeat("begin; ", 8)+"begin")
	for _, c := range []struct {
		c api.Conf
		l [][]api.Instr
		e api.Errno
	}{
		{conf(), many[:64], api.OK}, {bad, nil, api.ErrMachine}, {bad, many, api.ErrMachine}, {bad, [][]api.Instr{nil}, api.ErrMem},
		{conf(), [][]api.Instr{halt, deep, nil}, api.ErrDepth}, {conf(), [][]api.Instr{halt, nil, deep}, api.ErrCheck},
	} {
		if e := machine.Check(c.c, c.l); e != c.e {
			t.Error(len(c.l), e)
		}
		if m, e := machine.New(c.c, c.l); e != c.e || (m != nil) != (e == api.OK) {
			t.Error(len(c.l), e)
		}
	}
}

func TestNobodyMadeIt(t *testing.T) {
	for _, m := range []*machine.Machine{nil, {}} {
		if s, e := m.Pick(0); s != (api.Step{}) || e != api.ErrNil {
			t.Error(s, e)
		}
		if m.Run([]int{0, 0}) != 0 || m.Steps() != 0 || m.Log() != nil || m.Events() != nil || m.Reports() != nil || m.Attempts() != nil || m.Objects() != nil || m.Undone() != nil || m.Held() != nil || m.Records() != nil || m.Within() != nil || m.Over() {
			t.Error("zeros")
		}
	}
}

func TestPick(t *testing.T) { // P21.2, P21.3, the example
	m := made(t, conf(), "halt")
	if s, e := m.Pick(0); s != (api.Step{Kind: api.SLocal}) || e != api.OK || !m.Over() {
		t.Error(s, e)
	}
	m = made(t, conf(), "root r0; begin; get r1 r0 8; set r0 8 r0; end", "const r1 3; new r2 1 1; emit r1; halt")
	for _, n := range []int{-1, 2} {
		if s, e := m.Pick(n); s != (api.Step{}) || e != api.ErrRange {
			t.Error(n, e)
		}
	}
	if n := m.Run([]int{1, 0, -1, 2, 1, 0, 0, 0, 0, 0, 0}); n != 9 || m.Steps() != 9 {
		t.Error(n, m.Steps())
	}
	l := m.Log()
	if len(l) != 9 || l[0].Thread != 1 || l[1].Thread != 0 || l[2].Kind != api.SHeap || l[8].Kind != api.SOrec || l[8].Began != 4 {
		t.Error(l)
	}
	made := l[2].Ref
	v := m.Events()
	if !reflect.DeepEqual(v, []api.Event{{Kind: api.EPlain, Thread: 1, PC: 1, Begin: 3, Moment: 3, End: 3, News: []api.Val{made}}}) {
		t.Error(v)
	}
	v[0].News[0], l[0] = num(9), api.Step{}
	if m.Events()[0].News[0] != made || m.Log()[0].Thread != 1 {
		t.Error("an answer is one's own")
	}
	root := m.Objects()[0].Ref
	if r := m.Reports(); len(r) != 2 || r[0].PC != 1 || r[1].PC != 2 {
		t.Error(r)
	}
	if a := m.Attempts(); len(a) != 1 || a[0].Thread != 0 || a[0].Began != 4 || len(a[0].Reads) != 1 {
		t.Error(a)
	}
	if h := m.Held(); len(h) != 2 || !value.Same(h[0], []api.Val{root, root}) || !value.Same(h[1], []api.Val{made}) {
		t.Error(h)
	}
	if len(m.Objects()) != 2 || len(m.Records()) != 8 || !reflect.DeepEqual(m.Within(), []int{1, 0}) || m.Over() {
		t.Error(m.Within())
	}
	m.Run([]int{0, 0, 0, 0}) // it faults
	m.Run([]int{0, 0, 1, 1})
	if r := m.Reports(); r[0].Status != api.Failed || r[0].E != api.ErrKind || r[1].Status != api.Halted || !m.Over() {
		t.Error(r)
	}
	if v := m.Events(); len(v) != 2 || v[1].Kind != api.EFail || v[1].E != api.ErrKind {
		t.Error(v)
	}
}

func TestUndone(t *testing.T) { // P21.3
	m := made(t, conf(), "root r0; const r1 5; begin; new r2 1 0; set r0 8 r1; set r0 0 r2; end", "root r0; const r1 6; set r0 9 r1")
	for range 12 {
		m.Run([]int{0})
	}
	m.Run([]int{0})
	l := m.Undone()
	if len(l) != 1 || l[0].F[8] != num(0) || l[0].F[0] != value.Nil() {
		t.Error(l)
	}
	if o := m.Objects(); len(o) != 2 || o[0].F[8] != num(5) {
		t.Error(o)
	}
	m.Run(slicesOf(0, 30))
	m.Run(slicesOf(1, 6))
	if l := m.Undone(); l[0].F[9] != num(0) || m.Objects()[0].F[9] != num(6) {
		t.Error(l)
	}
	m.Run(slicesOf(1, 1))
	if l := m.Undone(); len(l) != 2 || l[0].F[9] != num(6) || l[0].F[8] != num(5) {
		t.Error(l)
	}
}

func slicesOf(t, n int) []int {
	l := make([]int, n)
	for i := range l {
		l[i] = t
	}
	return l
}

func TestTooManySteps(t *testing.T) { // P21.2
	m := made(t, conf(), ":a; jump @a")
	if n := m.Run(make([]int, api.MaxSteps+5)); n != api.MaxSteps || m.Steps() != api.MaxSteps {
		t.Error(n, m.Steps())
	}
	if s, e := m.Pick(0); s != (api.Step{}) || e != api.ErrMany || len(m.Log()) != api.MaxSteps {
		t.Error(s, e)
	}
	if _, e := m.Pick(1); e != api.ErrRange {
		t.Error(e)
	}
}

// some is a program without jumps, by chance.
func some(r *rand.Rand) string {
	l := []string{"root r0", "root r1", "const r2 1"}
	depth, other := 0, []int{}
	for range r.Intn(25) {
		switch k := r.Intn(14); {
		case k == 0 && depth < 4:
			l, depth, other = append(l, "begin"), depth+1, append(other, 0)
		case k == 1 && depth > 0:
			l, depth, other = append(l, "end"), depth-1, other[:depth-1]
		case k == 2 && depth > 0 && other[depth-1] == 0:
			l, other[depth-1] = append(l, "else"), 1
		case k == 3 && depth > 0 && r.Intn(2) == 0:
			l = append(l, "retry")
		case k < 6:
			l = append(l, []string{"get r3 r1 8", "get r2 r0 9", "get r5 r0 1"}[r.Intn(3)])
		case k < 8:
			l = append(l, []string{"set r0 8 r2", "set r0 9 r2", "set r0 1 r4", "set r4 0 r5"}[r.Intn(4)])
		case k < 10:
			l = append(l, "new r4 2 1")
		case k == 10:
			l = append(l, "emit r3")
		case k == 11:
			l = append(l, []string{"free r4", "free r5"}[r.Intn(2)])
		default:
			l = append(l, "add r2 r2 r2")
		}
	}
	for range depth {
		l = append(l, "end")
	}
	return strings.Join(l, "; ")
}

func all(m *machine.Machine) []any {
	return []any{m.Events(), m.Reports(), m.Attempts(), m.Objects(), m.Undone(), m.Held(), m.Records(), m.Within(), m.Over()}
}

// P21.4, P21.5, P21.6, P21.8, and P3 of the whole: what is private is reached by its owner alone.
func TestRandomly(t *testing.T) {
	for seed := range int64(150) {
		r := rand.New(rand.NewSource(seed))
		c := conf()
		c.Words, c.Orecs = 60+r.Intn(100), 1+r.Intn(8)
		if r.Intn(2) == 0 {
			c.Manager, c.Tries = api.Polite, 1+r.Intn(3)
		}
		progs := []string{some(r), some(r), some(r)}
		m, other := made(t, c, progs...), made(t, c, progs...)
		for n := range 500 {
			th := r.Intn(3)
			done := m.Reports()[th].Status
			var before []any
			if done == api.Halted || done == api.Failed {
				before = all(m)
			}
			s, e := m.Pick(th)
			if e != api.OK || s.Thread != th || m.Steps() != n+1 || m.Log()[n] != s {
				t.Fatal(seed, s, e)
			}
			if before != nil && (s.Kind != api.SStop || !reflect.DeepEqual(before, all(m))) {
				t.Fatal("a thread that is done", seed, s)
			}
			other.Pick(th)
			quiet(t, m)
			if e := graph.Sound(m.Objects(), m.Objects()[0].Ref, m.Held()); e != api.OK {
				t.Fatal("private", seed, n)
			}
		}
		if !reflect.DeepEqual(all(m), all(other)) || !reflect.DeepEqual(m.Log(), other.Log()) {
			t.Fatal("alike", seed)
		}
		last := map[int]int{}
		for _, v := range m.Events() {
			if v.Begin <= last[v.Thread] || v.Moment < v.Begin || v.End < v.Moment || m.Log()[v.End-1].Thread != v.Thread || m.Log()[v.Moment-1].Thread != v.Thread {
				t.Fatal(seed, v)
			}
			last[v.Thread] = v.End
		}
	}
}

// quiet: a thread that is done, or blocked, has no record, and is within no transaction.
func quiet(t *testing.T, m *machine.Machine) {
	t.Helper()
	within, records := m.Within(), m.Records()
	for th, r := range m.Reports() {
		if r.Status == api.Running {
			continue
		}
		if within[th]%2 == 1 {
			t.Fatal("within", th, r)
		}
		for _, o := range records {
			if o.K != api.Version && o.N == th {
				t.Fatal("a record", th, o)
			}
		}
	}
}

func TestCounts(t *testing.T) { // P21.7, and example 1 of the whole
	add := "root r0; const r1 1; const r5 3; :a; jumpz r5 @b; sub r5 r5 r1; begin; get r2 r0 8; add r2 r2 r1; set r0 8 r2; end; jump @a; :b; halt"
	for seed := range int64(60) {
		r := rand.New(rand.NewSource(seed))
		c := conf()
		c.Orecs = 1 + r.Intn(3)
		threads := 1 + r.Intn(4)
		m := made(t, c, []string{add, add, add, add}[:threads]...)
		for range r.Intn(200) {
			m.Pick(r.Intn(threads))
		}
		for n := 0; !m.Over() && n < 100000; n++ {
			m.Pick(n % threads)
		}
		if v := m.Objects()[0].F[8]; !m.Over() || v != num(3*threads) {
			t.Fatal(seed, v, m.Over())
		}
	}
}
