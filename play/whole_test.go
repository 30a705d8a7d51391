package play_test

import (
	"math/rand"
	"testing"

	"gantlet/api"
	"gantlet/fair"
	"gantlet/graph"
	"gantlet/machine"
	"gantlet/opaque"
	"gantlet/order"
	"gantlet/value"
)

func machineOf(t *testing.T, c api.Conf, l ...string) (*machine.Machine, [][]api.Instr) {
	t.Helper()
	var progs [][]api.Instr
	for _, s := range l {
		progs = append(progs, program(t, s))
	}
	m, e := machine.New(c, progs)
	if e != api.OK {
		t.Fatal(e)
	}
	return m, progs
}

func pick(m *machine.Machine, th, n int) api.Step {
	var s api.Step
	for range n {
		s, _ = m.Pick(th)
	}
	return s
}

// until picks a thread till a step of that kind.
func until(t *testing.T, m *machine.Machine, th int, k api.StepKind) {
	t.Helper()
	for range 200 {
		if s, _ := m.Pick(th); s.Kind == k {
			return
		}
	}
	t.Fatal("no such step", k)
}

// wild is a program by chance, with rounds of a counter that may stand around blocks, or in them.
func wild(r *rand.Rand) string {
	s := "const r6 1; const r7 " + number(1+r.Intn(3)) + "; :again; "
	return s + some(r) + "; sub r7 r7 r6; jumpz r7 @over; jump @again; :over; halt"
}

// right judges all that a machine has told: P1, P2, P3.
func right(t *testing.T, m *machine.Machine, progs [][]api.Instr) {
	t.Helper()
	l := m.Events()
	if n, e := order.Judge(progs, l, m.Reports(), m.Undone()); n != len(l) || e != api.OK {
		t.Fatal("P1", m.Steps(), n, e)
	}
	if n, e := opaque.All(progs, l, m.Attempts()); n != -1 || e != api.OK {
		t.Fatal("P2", m.Steps(), n, e)
	}
	objs := m.Objects()
	if e := graph.Sound(objs, objs[0].Ref, m.Held()); e != api.OK {
		t.Fatal("P3", m.Steps(), e)
	}
}

func TestTheWhole(t *testing.T) { // P1, P2, P3, P4
	for seed := range int64(120) {
		r := rand.New(rand.NewSource(seed))
		c := conf()
		c.Orecs, c.Reads, c.Undo, c.Words = 1+r.Intn(8), 2+r.Intn(8), 3+r.Intn(8), 60+r.Intn(90)
		if r.Intn(2) == 0 {
			c.Manager, c.Tries = api.Polite, 1+r.Intn(4)
		}
		if r.Intn(4) == 0 {
			c.Clock = 1 + r.Intn(8)
		}
		m, progs := machineOf(t, c, wild(r), wild(r), wild(r))
		for range 400 {
			th := r.Intn(3)
			for range 1 + r.Intn(2) {
				m.Pick(th)
			}
			right(t, m, progs)
		}
		if n := opaque.Late(m.Log(), m.Events()); n != 0 {
			t.Fatal("P4", seed, n)
		}
	}
}

func TestItGoesOn(t *testing.T) { // P5
	for seed := range int64(200) {
		r := rand.New(rand.NewSource(seed))
		var l []string
		for len(l) < 1+int(seed)%4 {
			if s := some(r); fair.Ends(program(t, s)) {
				l = append(l, s)
			}
		}
		c := conf()
		c.Orecs = 1 + r.Intn(4)
		m, progs := machineOf(t, c, l...)
		bound, e := fair.Bound(progs)
		if n := fair.Drive(m, len(progs), bound); e != api.OK || n > bound || !m.Over() {
			t.Fatal(seed, n, bound, e)
		}
	}
	waits := "root r0; begin; get r1 r0 8; jumpz r1 @w; jump @g; :w; retry; :g; end"
	for _, wakes := range []string{"root r0; const r1 1; set r0 8 r1", "root r0; const r1 1; begin; set r0 8 r1; end"} {
		m, progs := machineOf(t, conf(), waits, "root r0; const r1 1; set r0 9 r1; get r2 r0 0; get r2 r0 0", wakes)
		pick(m, 0, 40)
		if m.Reports()[0].Status != api.Blocked {
			t.Fatal("it waits")
		}
		until(t, m, 2, api.SStop)
		pick(m, 0, 40)
		if m.Reports()[0].Status != api.Halted {
			t.Error("it goes on", m.Reports()[0])
		}
		right(t, m, progs)
	}
}

func TestTenExamples(t *testing.T) {
	add := "root r0; const r1 1; begin; get r2 r0 8; add r2 r2 r1; set r0 8 r2; end"
	for seed := range int64(50) { // 1: it is 2, whoever is picked
		r := rand.New(rand.NewSource(seed))
		m, progs := machineOf(t, conf(), add, add)
		for !m.Over() {
			m.Pick(r.Intn(2))
		}
		if v := m.Objects()[0].F[8]; v != value.Number(2) {
			t.Error(1, v)
		}
		right(t, m, progs)
	}
	m, _ := machineOf(t, conf(), "root r0; const r1 7; begin; set r0 8 r1; end", "root r0; const r1 9; set r0 8 r1") // 2: a plain write waits for the record
	until(t, m, 0, api.SStore)
	pick(m, 1, 3)
	for range 5 {
		if s := pick(m, 1, 1); s.Kind != api.SWait {
			t.Error(2, s)
		}
	}
	until(t, m, 0, api.SFree)
	until(t, m, 1, api.SFree)
	if v := m.Objects()[0].F[8]; v != value.Number(9) {
		t.Error(2, v)
	}
	c := conf()
	c.Orecs = 64
	setup := "root r0; new r1 1 0; new r2 1 0; set r0 0 r1; set r0 1 r2; const r7 1; begin; "
	m, progs := machineOf(t, c, setup+"end; begin; get r3 r1 0; get r4 r2 0; end; emit r3; emit r4", "root r0; const r7 5; get r1 r0 0; get r2 r0 1; begin; set r1 0 r7; set r2 0 r7; end") // 3: it gives way, and reads both anew
	for range 2 {
		until(t, m, 0, api.SMark)
	}
	until(t, m, 0, api.SFree) // both are there
	until(t, m, 0, api.SLoad) // the first one is read
	pick(m, 0, 1)
	for range 4 {
		until(t, m, 1, api.SFree)
		if len(m.Events()) > 0 && m.Events()[len(m.Events())-1].Kind == api.EBlock && m.Events()[len(m.Events())-1].Thread == 1 {
			break
		}
	}
	pick(m, 1, 2)
	until(t, m, 0, api.SCheck)
	right(t, m, progs)
	fair.Drive(m, 2, 1000)
	if l := m.Reports()[0].Emits; !value.Same(l, []api.Val{value.Number(5), value.Number(5)}) {
		t.Error(3, l)
	}
	exampleDoomed(t)
	exampleShared(t)
	exampleTakenOut(t)
	exampleLimits(t)
}

func exampleDoomed(t *testing.T) { // 4: it writes back what fields had, and lets its records go with their versions
	m, _ := machineOf(t, conf(), "root r0; begin; get r1 r0 8; end", "root r0; const r1 7; begin; set r0 8 r1; get r2 r0 9; end")
	pick(m, 0, 3)
	until(t, m, 1, api.SStore)
	before := m.Records()
	until(t, m, 0, api.SWait)
	until(t, m, 1, api.SUndo)
	until(t, m, 1, api.SFree)
	if v := m.Objects()[0].F[8]; v != value.Number(0) {
		t.Error(4, v)
	}
	for i, o := range m.Records() {
		if o.K != api.Version || o.N != 0 || o.I != before[i].I {
			t.Error(4, i, o)
		}
	}
}

func exampleShared(t *testing.T) { // 5: all that it refers to is shared ahead of the store
	m, _ := machineOf(t, conf(), "root r0; new r1 1 1; new r2 1 1; set r1 0 r2; set r0 0 r1")
	for range 2 {
		until(t, m, 0, api.SMark)
	}
	for _, o := range m.Objects() {
		if o.Head.State != api.Shared || o.F[0] != value.Nil() && o.Ref == m.Objects()[0].Ref {
			t.Error(5, o)
		}
	}
}

func exampleTakenOut(t *testing.T) { // 6: behind its fence nobody else's undo reaches what was taken out
	for seed := range int64(80) {
		r := rand.New(rand.NewSource(seed))
		out := "root r0; new r1 1 0; set r0 0 r1; nil r2; const r4 9; begin; get r1 r0 0; set r0 0 r2; end; jumpz r1 @none; set r1 0 r4; get r5 r1 0; emit r5; :none; halt"
		writes := "root r0; const r4 1; begin; get r1 r0 0; jumpz r1 @none; set r1 0 r4; get r2 r0 9; :none; end"
		m, progs := machineOf(t, conf(), out, writes, writes)
		for n := 0; !m.Over() && n < 5000; n++ {
			m.Pick(r.Intn(3))
		}
		if l := m.Reports()[0].Emits; !value.Same(l, []api.Val{value.Number(9)}) || !m.Over() {
			t.Fatal(6, seed, l)
		}
		right(t, m, progs)
	}
}

func exampleLimits(t *testing.T) { // 9, 10
	m, progs := machineOf(t, conf(), "root r0; new r1 1 0; set r0 0 r1; begin; free r1; end; new r2 1 0; emit r2; get r3 r1 0")
	fair.Drive(m, 1, 1000)
	r := m.Reports()[0]
	if r.Status != api.Failed || r.E != api.ErrFreed || value.Addr(r.Regs[2]) != value.Addr(r.Regs[1]) || value.Gen(r.Regs[2]) != 2 {
		t.Error(9, r)
	}
	right(t, m, progs)
	c := conf()
	c.Reads, c.Orecs = 1, 64
	m, progs = machineOf(t, c, "root r0; new r1 1 0; set r0 0 r1; const r4 3; begin; set r0 8 r4; get r3 r1 0; get r3 r0 8; end", "root r0; get r1 r0 8; emit r1")
	fair.Drive(m, 2, 1000)
	l := m.Reports()
	if l[0].Status != api.Failed || l[0].E != api.ErrReads || l[1].Status != api.Halted || m.Objects()[0].F[8] != value.Number(0) {
		t.Error(10, l)
	}
	right(t, m, progs)
}
