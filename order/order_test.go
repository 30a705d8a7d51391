package order_test

import (
	"math"
	"math/rand"
	"reflect"
	"strings"
	"testing"

	"gantlet/api"
	"gantlet/asm"
	"gantlet/machine"
	"gantlet/order"
	"gantlet/value"
)

func num(n int) api.Val { return value.Number(n) }

func ref(gen, addr int) api.Val { v, _ := value.Of(gen, addr); return v }

func programs(t *testing.T, l ...string) [][]api.Instr {
	t.Helper()
	var progs [][]api.Instr
	for _, s := range l {
		p, line, e := asm.Parse(strings.ReplaceAll(s, "; ", "\n") + "\n")
		if e != api.OK {
			t.Fatal(s, line, e)
		}
		progs = append(progs, p)
	}
	return progs
}

func event(th, begin, moment, end int) api.Event {
	return api.Event{Kind: api.EPlain, Thread: th, Begin: begin, Moment: moment, End: end}
}

func TestSort(t *testing.T) { // P22.1, P22.4
	l := []api.Event{event(0, 1, 5, 9), event(1, 2, 3, 4), event(1, 5, 8, 8), event(0, 10, 10, 10), event(77, 6, 7, 30)}
	l[1].News = []api.Val{num(1)}
	got, e := order.Sort(l)
	if e != api.OK || !reflect.DeepEqual(got, []api.Event{l[1], l[0], l[4], l[2], l[3]}) {
		t.Error(got, e)
	}
	got[0].News[0] = num(9)
	if l[1].News[0] != num(1) || l[0].Moment != 5 {
		t.Error("what is handed in is changed")
	}
	if got, e := order.Sort(nil); len(got) != 0 || e != api.OK {
		t.Error(got, e)
	}
	for _, l := range [][]api.Event{
		{event(0, 0, 1, 1)}, {event(0, -1, 1, 1)}, {event(0, 2, 1, 3)}, {event(0, 2, 4, 3)}, {event(0, 1, 2, 3), event(1, 2, 2, 2)},
		{event(0, 1, 2, 3), event(0, 3, 4, 5)}, {event(0, 4, 4, 5), event(0, 1, 2, 3)}, {event(0, 1, 1, 9), event(1, 2, 2, 2), event(0, 5, 5, 10)},
	} {
		if got, e := order.Sort(l); got != nil || e != api.ErrOrder {
			t.Error(l, got, e)
		}
		if m, n, e := order.Replay(nil, l); m != nil || n != -1 || e != api.ErrOrder {
			t.Error(l, n, e)
		}
		if n, e := order.Judge(nil, l, nil, nil); n != -1 || e != api.ErrOrder {
			t.Error(l, n, e)
		}
	}
	for _, c := range []struct {
		end, begin int
		want       bool
	}{{1, 2, true}, {2, 2, false}, {3, 2, false}, {math.MinInt, math.MaxInt, true}} {
		if order.Before(api.Event{Begin: 50, End: c.end}, api.Event{Begin: c.begin, End: -50}) != c.want {
			t.Error(c)
		}
	}
}

var adds = "root r0; const r1 1; begin; get r2 r0 8; add r2 r2 r1; set r0 8 r2; end; emit r2; halt"

func block(th, pc, moment int) api.Event {
	return api.Event{Kind: api.EBlock, Thread: th, PC: pc, Begin: moment, Moment: moment, End: moment}
}

func TestReplay(t *testing.T) { // P22.2
	progs := programs(t, adds, adds)
	m, n, e := order.Replay(progs, []api.Event{block(1, 2, 9), block(0, 2, 4)})
	if e != api.OK || n != 2 {
		t.Fatal(n, e)
	}
	m.Finish()
	if r, _ := m.Report(1); !value.Same(r.Emits, []api.Val{num(2)}) {
		t.Error(r)
	}
	if m, n, e := order.Replay(progs, nil); m == nil || n != 0 || e != api.OK {
		t.Error(n, e)
	}
	for _, c := range []struct {
		progs [][]api.Instr
		l     []api.Event
		n     int
		e     api.Errno
	}{
		{nil, nil, -1, api.ErrArg}, {[][]api.Instr{nil}, nil, -1, api.ErrCheck},
		{progs, []api.Event{block(0, 3, 5)}, 0, api.ErrOrder}, {progs, []api.Event{block(1, 3, 9), block(0, 2, 4)}, 1, api.ErrOrder}, {progs, []api.Event{block(0, 2, 4), block(0, 2, 5), block(1, 9, 9)}, 1, api.ErrOrder}, {progs, []api.Event{block(7, 2, 4)}, 0, api.ErrOrder},
	} {
		if m, n, e := order.Replay(c.progs, c.l); m != nil || n != c.n || e != c.e {
			t.Error(c, n, e)
		}
		if n, e := order.Judge(c.progs, c.l, make([]api.Report, len(c.progs)), nil); n != c.n || e != c.e {
			t.Error(c, n, e)
		}
	}
}

// told is what a run told, or one that is turned.
type told struct {
	events  []api.Event
	reports []api.Report
	objs    []api.Object
}

func run(t *testing.T, c api.Conf, progs [][]api.Instr, picks ...int) told {
	t.Helper()
	m, e := machine.New(c, progs)
	if e != api.OK {
		t.Fatal(e)
	}
	m.Run(picks)
	return told{m.Events(), m.Reports(), m.Undone()}
}

func conf() api.Conf {
	return api.Conf{Words: 100, Orecs: 8, Reads: 10, Undo: 10, Clock: 1000, Manager: api.Greedy}
}

func often(th, n int) []int {
	l := make([]int, n)
	for i := range l {
		l[i] = th
	}
	return l
}

func TestJudge(t *testing.T) { // P22.3, P22.5, the example
	halt := programs(t, "halt")
	objs := run(t, conf(), halt).objs
	for _, c := range []struct {
		s    api.Status
		want api.Errno
	}{{api.Halted, api.OK}, {api.Failed, api.ErrOrder}, {api.Running, api.OK}, {api.Blocked, api.OK}} {
		r := api.Report{Status: c.s}
		for i := range r.Regs {
			r.Regs[i] = num(0)
		}
		n, e := order.Judge(halt, nil, []api.Report{r}, objs)
		if e != c.want || e == api.OK && n != 0 || e != api.OK && n != -1 {
			t.Error(c, n, e)
		}
	}
	progs := programs(t, adds, "root r0; new r1 2 1; begin; set r0 1 r1; end; new r3 1 0; halt", "const r4 2; emit r4; root r0; emit r4; get r1 r0 8; emit r1; get r1 r0 8; halt")
	picks := append(append(often(0, 50), often(1, 50)...), often(2, 8)...)
	w := run(t, conf(), progs, picks...)
	if n, e := order.Judge(progs, w.events, w.reports, w.objs); n != 5 || e != api.OK {
		t.Fatal(n, e, w)
	}
	for i, turn := range []func(w *told){
		func(w *told) { w.reports[0].Regs[5] = num(1) }, func(w *told) { w.reports[0].Regs[2] = num(7) }, func(w *told) { w.reports[0].Emits = nil }, func(w *told) { w.reports[0].Emits[0] = num(2) }, func(w *told) { w.reports[0].Emits = append(w.reports[0].Emits, num(1)) },
		func(w *told) { w.reports[0].PC = 7 }, func(w *told) { w.reports[0].E = api.ErrArg }, func(w *told) { w.reports[0].Status = api.Failed }, func(w *told) { w.reports = w.reports[:2] }, func(w *told) { w.reports = append(w.reports, api.Report{}) },
		func(w *told) { w.objs[0].F[8] = num(5) }, func(w *told) { w.objs[0].F[1] = value.Nil() }, func(w *told) { w.objs[1].F[1] = num(5) }, func(w *told) { w.objs[1].Head.State = api.Freed }, func(w *told) { w.objs[2].F[0] = num(1) }, func(w *told) { w.objs = w.objs[:2] },
		func(w *told) { w.events = w.events[1:] }, func(w *told) { w.reports[2].Status = api.Halted }, func(w *told) { w.reports[2].Emits[0] = num(7) }, func(w *told) { w.reports[1].Regs[3] = ref(9, 9) },
	} {
		w := run(t, conf(), progs, picks...)
		turn(&w)
		if n, e := order.Judge(progs, w.events, w.reports, w.objs); e != api.ErrOrder || n > 0 {
			t.Error(i, n, e)
		}
	}
	for i, turn := range []func(w *told){
		func(w *told) {},
		func(w *told) { w.objs[1].Head.Owner = 5 }, func(w *told) { w.objs[2].Head.State = api.Shared }, func(w *told) { w.objs = append(w.objs, api.Object{Ref: ref(5, 90)}) },
		func(w *told) { w.reports[2].Emits = append(w.reports[2].Emits, num(4)) }, func(w *told) { w.reports[2].Regs[7] = num(8) }, func(w *told) { w.reports[2].PC = 5 }, func(w *told) { w.reports[2].Status = api.Blocked },
		func(w *told) { w.objs[0], w.objs[1] = w.objs[1], w.objs[0] },
	} {
		w := run(t, conf(), progs, picks...)
		turn(&w)
		if n, e := order.Judge(progs, w.events, w.reports, w.objs); e != api.OK || n != 5 {
			t.Error(i, n, e)
		}
	}
}

func TestAThreadThatRuns(t *testing.T) { // P22.3: it runs in the model, ahead of Finish
	progs := programs(t, "root r0; emit r0; get r1 r0 8; emit r1; halt")
	w := run(t, conf(), progs, often(0, 6)...)
	w.reports[0].Emits = nil // the model told one ahead of the unit
	if n, e := order.Judge(progs, w.events, w.reports, w.objs); n != -1 || e != api.ErrOrder {
		t.Error(n, e)
	}
	fails := programs(t, "get r0 r0 0")
	w = run(t, conf(), fails, 0)
	w.reports[0].Status = api.Running
	if n, e := order.Judge(fails, w.events, w.reports, w.objs); n != -1 || e != api.ErrOrder {
		t.Error(n, e)
	}
}

func TestTheRootIsReached(t *testing.T) { // P22.3: from the root on, also where no register has it
	progs := programs(t, "root r0; const r1 5; set r0 8 r1; nil r0; halt")
	w := run(t, conf(), progs, often(0, 11)...)
	if n, e := order.Judge(progs, w.events, w.reports, w.objs); n != 1 || e != api.OK || w.reports[0].Status != api.Halted {
		t.Error(n, e)
	}
	w.objs[0].F[8] = num(6)
	if n, e := order.Judge(progs, w.events, w.reports, w.objs); n != -1 || e != api.ErrOrder {
		t.Error(n, e)
	}
}

// some is a program by chance, some with jumps back.
func some(r *rand.Rand) string {
	l := []string{"root r0", "root r1", "const r2 1", "const r6 2", "const r7 1"}
	depth, other := 0, []int{}
	for range r.Intn(30) {
		switch k := r.Intn(16); {
		case k == 0 && depth < 4:
			l, depth, other = append(l, "begin"), depth+1, append(other, 0)
		case k == 1 && depth > 0:
			l, depth, other = append(l, "end"), depth-1, other[:depth-1]
		case k == 2 && depth > 0 && other[depth-1] == 0:
			l, other[depth-1] = append(l, "else"), 1
		case k == 3 && depth > 0 && r.Intn(2) == 0:
			l = append(l, "retry")
		case k < 6:
			l = append(l, []string{"get r3 r1 8", "get r2 r0 9", "get r5 r0 1", "get r4 r0 2"}[r.Intn(4)])
		case k < 9:
			l = append(l, []string{"set r0 8 r2", "set r0 9 r2", "set r0 1 r4", "set r4 0 r5", "set r0 2 r5"}[r.Intn(5)])
		case k < 11:
			l = append(l, "new r4 2 1")
		case k == 11:
			l = append(l, "emit r3")
		case k == 12:
			l = append(l, []string{"free r4", "free r5"}[r.Intn(2)])
		case k == 13:
			l = append(l, "set r4 1 r2")
		default:
			l = append(l, "add r2 r2 r7")
		}
	}
	for range depth {
		l = append(l, "end")
	}
	return strings.Join(l, "; ")
}

// P1 of the whole, P22.5: whatever is run, whoever is picked: one order.
func TestMachinesAreOneOrder(t *testing.T) {
	for seed := range int64(1500) {
		r := rand.New(rand.NewSource(seed))
		c := conf()
		c.Words, c.Orecs, c.Reads, c.Undo = 60+r.Intn(100), 1+r.Intn(8), 2+r.Intn(9), 2+r.Intn(9)
		if r.Intn(3) == 0 {
			c.Manager, c.Tries = api.Polite, 1+r.Intn(3)
		}
		if r.Intn(5) == 0 {
			c.Clock = 1 + r.Intn(5)
		}
		progs := programs(t, some(r), some(r), some(r))
		m, _ := machine.New(c, progs)
		for range 6 {
			for range r.Intn(100) {
				m.Pick(r.Intn(3))
			}
			l := m.Events()
			if n, e := order.Judge(progs, l, m.Reports(), m.Undone()); n != len(l) || e != api.OK {
				t.Fatal(seed, n, e)
			}
			sorted, _ := order.Sort(l)
			at := map[[2]int]int{} // places in order, by thread and begin
			for n, v := range sorted {
				at[[2]int{v.Thread, v.Begin}] = n
			}
			for i, a := range l {
				for j, b := range l {
					if (order.Before(a, b) || i < j && a.Thread == b.Thread) && at[[2]int{a.Thread, a.Begin}] >= at[[2]int{b.Thread, b.Begin}] {
						t.Fatal(seed, a, b)
					}
				}
			}
		}
	}
}
