package search_test

import (
	"math"
	"math/rand"
	"slices"
	"strings"
	"testing"

	"gantlet/api"
	"gantlet/asm"
	"gantlet/machine"
	"gantlet/order"
	"gantlet/search"
	"gantlet/value"
)

func num(n int) api.Val { return value.Number(n) }

func programs(t *testing.T, l ...string) [][]api.Instr {
	t.Helper()
	var progs [][]api.Instr
	for _, s := range l {
		p, line, e := asm.Parse(strings.ReplaceAll(s, "; ", "\n") + "\n")
		if e != api.OK {
			t.Fatal(s, line, e)
		}
		progs = append(progs, p)
	}
	return progs
}

func span(th, begin, end int) api.Event { return api.Event{Thread: th, Begin: begin, End: end} }

func TestCheck(t *testing.T) { // P30.1
	many := make([]api.Event, 65)
	for i := range many {
		many[i] = span(i, 1, 1)
	}
	for _, c := range []struct {
		l     []api.Event
		e     api.Errno
		width int
	}{
		{nil, api.OK, 0}, {many[:64], api.OK, 64}, {many, api.ErrMany, 0}, {append(slices.Clone(many), span(0, 0, 0)), api.ErrMany, 0},
		{[]api.Event{span(0, 0, 1)}, api.ErrSearch, 0}, {[]api.Event{span(0, 2, 1)}, api.ErrSearch, 0}, {[]api.Event{span(0, -5, 1)}, api.ErrSearch, 0},
		{[]api.Event{span(0, 1, 2), span(0, 2, 3)}, api.ErrSearch, 0}, {[]api.Event{span(0, 3, 4), span(0, 1, 2)}, api.ErrSearch, 0}, {[]api.Event{span(0, 1, 2), span(0, 3, 3)}, api.OK, 1},
		{[]api.Event{span(0, 1, 5), span(1, 5, 9), span(2, 6, 6)}, api.OK, 2}, {[]api.Event{span(0, 1, 5), span(1, 5, 9), span(2, 2, 6), span(-7, 7, math.MaxInt)}, api.OK, 3},
		{[]api.Event{{Begin: 1, Moment: 99, End: 2}}, api.OK, 1}, // moments are not looked at
	} {
		if e, w := search.Check(c.l), search.Width(c.l); e != c.e || w != c.width {
			t.Error(c, e, w)
		}
	}
	for _, c := range []struct {
		end, begin int
		want       bool
	}{{1, 2, true}, {2, 2, false}, {3, 2, false}, {math.MinInt, math.MaxInt, true}} {
		if search.Precedes(api.Event{Begin: 9, End: c.end}, api.Event{Begin: c.begin, End: 0}) != c.want {
			t.Error(c)
		}
	}
}

func conf() api.Conf {
	return api.Conf{Words: 100, Orecs: 8, Reads: 10, Undo: 10, Clock: 1000, Manager: api.Greedy}
}

func run(t *testing.T, progs [][]api.Instr, picks ...int) *machine.Machine {
	t.Helper()
	m, e := machine.New(conf(), progs)
	if e != api.OK {
		t.Fatal(e)
	}
	m.Run(picks)
	return m
}

func TestErrors(t *testing.T) { // P30.2
	halt := programs(t, "halt")
	bad := []api.Event{span(0, 0, 0)}
	for _, c := range []struct {
		progs [][]api.Instr
		l     []api.Event
		most  int
		e     api.Errno
	}{{nil, bad, 0, api.ErrArg}, {halt, nil, -1, api.ErrArg}, {halt, nil, api.MaxSteps + 1, api.ErrArg}, {nil, bad, 1, api.ErrSearch}, {nil, make([]api.Event, 65), 1, api.ErrMany}, {nil, nil, 1, api.ErrArg}, {[][]api.Instr{nil}, nil, api.MaxSteps, api.ErrCheck}} {
		if l, n, e := search.Find(c.progs, c.l, nil, nil, c.most); l != nil || n != 0 || e != c.e {
			t.Error(c, l, n, e)
		}
	}
	m := run(t, halt, 0)
	if l, n, e := search.Find(halt, nil, m.Reports(), m.Undone(), 1); len(l) != 0 || n != 0 || e != api.OK { // the example
		t.Error(l, n, e)
	}
	if l, n, e := search.Find(halt, nil, nil, m.Undone(), 1); l != nil || n != 0 || e != api.ErrSearch {
		t.Error(l, n, e)
	}
}

// history is of a machine that sets field 8 to 1, 2, and reads it once; all at the same time.
func history(t *testing.T) ([][]api.Instr, *machine.Machine) {
	progs := programs(t, "root r0; const r1 1; set r0 8 r1", "root r0; const r1 2; set r0 8 r1", "root r0; get r1 r0 8; emit r1")
	m := run(t, progs, 0, 0, 1, 1, 2, 0, 1, 2, 2, 2, 2, 0, 0, 0, 0, 0, 0, 1, 1, 1, 1, 1, 1, 1, 1, 2, 2, 2)
	if len(m.Events()) != 3 || !m.Over() {
		t.Fatal(m.Events())
	}
	return progs, m
}

func TestFind(t *testing.T) { // P30.2
	progs, m := history(t)
	l := m.Events() // told: the read, of 0, then the write of 1, then that of 2
	for i := range l {
		l[i].Moment = -7
	}
	read, one, two := slices.IndexFunc(l, func(v api.Event) bool { return v.Thread == 2 }), slices.IndexFunc(l, func(v api.Event) bool { return v.Thread == 0 }), slices.IndexFunc(l, func(v api.Event) bool { return v.Thread == 1 })
	got, n, e := search.Find(progs, l, m.Reports(), m.Undone(), 100)
	if e != api.OK || !slices.Equal(got, []int{read, one, two}) || n != 3 {
		t.Error(got, n, e)
	}
	for i := range l { // all are under way all the time, and the row is told anew: the first order that is right
		l[i].Begin, l[i].End = 1, 50
	}
	row := []api.Event{l[two], l[one], l[read]}
	got, n, e = search.Find(progs, row, m.Reports(), m.Undone(), 100)
	// 0: 1: 2 wrong, 2: 1 wrong; 1: 0: 2 wrong, 2: 0 wrong; 2: 0: 1 wrong; 1: 0 right
	if e != api.OK || !slices.Equal(got, []int{2, 1, 0}) || n != 15 {
		t.Error(got, n, e)
	}
	if got, n, e := search.Find(progs, row, m.Reports(), m.Undone(), 15); e != api.OK || n != 15 || len(got) != 3 {
		t.Error(got, n, e)
	}
	for most := 1; most < 15; most++ {
		if got, n, e := search.Find(progs, row, m.Reports(), m.Undone(), most); got != nil || n != most || e != api.ErrMany {
			t.Error(most, got, n, e)
		}
	}
	objs := m.Undone()
	objs[0].F[8] = num(9)
	if got, n, e := search.Find(progs, row, m.Reports(), objs, 15); got != nil || n != 15 || e != api.ErrSearch { // just as many as there are
		t.Error(got, n, e)
	}
	row[0].End, row[1].Begin = 5, 6 // 2 is written first: then it can't be there in the end
	if got, n, e := search.Find(progs, row, m.Reports(), m.Undone(), 100); got != nil || e != api.ErrSearch || n != 8 {
		t.Error(got, n, e)
	}
	row[0].PC = 9 // the model does not do it
	row[0].End, row[1].Begin = 50, 1
	if got, n, e := search.Find(progs, row, m.Reports(), m.Undone(), 100); got != nil || e != api.ErrSearch || n != 9 {
		t.Error(got, n, e)
	}
}

func TestManyEvents(t *testing.T) { // P30.2, P30.5: as many as there may be
	progs := programs(t, "root r0"+strings.Repeat("; get r1 r0 8", 64))
	m := run(t, progs, make([]int, 300)...)
	l := m.Events()
	row, n, e := search.Find(progs, l, m.Reports(), m.Undone(), 64)
	if len(l) != 64 || len(row) != 64 || !slices.IsSorted(row) || n != 64 || e != api.OK {
		t.Error(len(l), row, n, e)
	}
}

// some is a program by chance.
func some(r *rand.Rand) string {
	l := []string{"root r0", "const r2 " + string(rune('1'+r.Intn(9)))}
	for range 1 + r.Intn(5) {
		l = append(l, []string{"get r2 r0 8", "get r3 r0 9; emit r3", "set r0 8 r2", "set r0 9 r2", "begin; get r4 r0 8; set r0 9 r4; end", "new r5 1 0", "set r0 1 r5", "begin; retry; else; get r6 r0 9; end", "get r6 r0 1; get r6 r6 0"}[r.Intn(9)])
	}
	return strings.Join(l, "; ")
}

// respects tells whether an order has each event once, behind all that precede it.
func respects(l []api.Event, row []int) bool {
	if len(row) != len(l) {
		return false
	}
	place := make([]int, len(l))
	for i := range place {
		place[i] = -1
	}
	for n, at := range row {
		place[at] = n
	}
	for i, a := range l {
		for j, b := range l {
			if place[i] < 0 || search.Precedes(a, b) && place[i] >= place[j] {
				return false
			}
		}
	}
	return true
}

func TestMachines(t *testing.T) { // P30.3, P30.4
	for seed := range int64(300) {
		r := rand.New(rand.NewSource(seed))
		progs := programs(t, some(r), some(r), some(r))
		var picks []int
		for range r.Intn(150) {
			picks = append(picks, r.Intn(3))
		}
		m := run(t, progs, picks...)
		l := m.Events()
		row, n, e := search.Find(progs, l, m.Reports(), m.Undone(), 20000)
		if e == api.ErrMany && n == 20000 {
			continue
		}
		if e != api.OK || !respects(l, row) {
			t.Fatal(seed, row, n, e)
		}
		var sorted []api.Event
		for n, at := range row {
			v := l[at]
			v.Begin, v.Moment, v.End = 3*n+1, 3*n+2, 3*n+3
			sorted = append(sorted, v)
		}
		if n, e := order.Judge(progs, sorted, m.Reports(), m.Undone()); n != len(l) || e != api.OK {
			t.Fatal("right", seed, n, e)
		}
	}
}

func TestOneWay(t *testing.T) { // P30.5
	for seed := range int64(100) {
		r := rand.New(rand.NewSource(seed))
		progs := programs(t, some(r), some(r))
		m, _ := machine.New(conf(), progs)
		for range 12 { // each unit alone
			th := r.Intn(2)
			for events := len(m.Events()); len(m.Events()) == events && m.Steps() < 500 && m.Reports()[th].Status == api.Running; {
				m.Pick(th)
			}
		}
		l := m.Events()
		if search.Width(l) > 1 {
			continue
		}
		row, n, e := search.Find(progs, l, m.Reports(), m.Undone(), 100)
		if e != api.OK || n > len(l) || !slices.IsSorted(row) {
			t.Fatal(seed, row, n, e)
		}
		if len(l) == 0 {
			continue
		}
		reports := m.Reports()
		if ended := slices.IndexFunc(reports, func(r api.Report) bool { return r.Status == api.Halted }); ended >= 0 {
			reports[ended].Regs[7] = num(99)
			if row, n, e := search.Find(progs, l, reports, m.Undone(), 100); row != nil || n > len(l) || e != api.ErrSearch {
				t.Fatal(seed, row, n, e)
			}
		}
	}
}
