package opaque_test

import (
	"math/rand"
	"reflect"
	"strings"
	"testing"

	"gantlet/api"
	"gantlet/asm"
	"gantlet/machine"
	"gantlet/opaque"
	"gantlet/value"
)

func num(n int) api.Val { return value.Number(n) }

var root, _ = value.Of(1, 1)

func programs(t *testing.T, l ...string) [][]api.Instr {
	t.Helper()
	var progs [][]api.Instr
	for _, s := range l {
		p, line, e := asm.Parse(strings.ReplaceAll(s, "; ", "\n") + "\n")
		if e != api.OK {
			t.Fatal(s, line, e)
		}
		progs = append(progs, p)
	}
	return progs
}

func plain(th, pc, moment int) api.Event {
	return api.Event{Kind: api.EPlain, Thread: th, PC: pc, Moment: moment}
}

func TestSorted(t *testing.T) { // P23.1
	l := []api.Event{plain(0, 0, 5), plain(1, 0, 3), plain(2, 0, 5), plain(3, 0, -1), plain(4, 0, 3)}
	l[0].News = []api.Val{num(1)}
	got := opaque.Sorted(l)
	if !reflect.DeepEqual(got, []api.Event{l[3], l[1], l[4], l[0], l[2]}) {
		t.Error(got)
	}
	got[3].News[0] = num(2)
	if l[0].News[0] != num(1) || l[0].Thread != 0 || len(opaque.Sorted(nil)) != 0 {
		t.Error("what is handed in is changed")
	}
}

const sets = "root r0; const r1 5; set r0 8 r1; const r1 6; set r0 8 r1; const r1 7; set r0 9 r1"

func TestAt(t *testing.T) { // P23.1, the example
	progs := programs(t, sets, sets)
	l := []api.Event{plain(0, 4, 9), plain(0, 2, 4), plain(0, 6, 9), plain(1, 5, 20)}
	for _, c := range []struct{ step, eight, nine int }{{-1, 0, 0}, {3, 0, 0}, {4, 5, 0}, {8, 5, 0}, {9, 6, 7}, {19, 6, 7}} {
		m, e := opaque.At(progs, l, c.step)
		if e != api.OK {
			t.Fatal(c, e)
		}
		eight, _ := m.Has(root, 8)
		if nine, _ := m.Has(root, 9); eight != num(c.eight) || nine != num(c.nine) {
			t.Error(c, eight, nine)
		}
	}
	if m, e := opaque.At(progs, l, 20); m != nil || e != api.ErrOpaque {
		t.Error(e)
	}
	for _, step := range []int{0, 1 << 60} {
		if m, e := opaque.At(progs, nil, step); m == nil || e != api.OK || len(m.Objects()) != 1 {
			t.Error(step, e)
		}
	}
	for _, c := range []struct {
		progs [][]api.Instr
		e     api.Errno
	}{{nil, api.ErrArg}, {[][]api.Instr{nil}, api.ErrCheck}} {
		if m, e := opaque.At(c.progs, l, 0); m != nil || e != c.e {
			t.Error(e)
		}
		if n, e := opaque.Read(c.progs, l, api.Attempt{}); n != 0 || e != c.e {
			t.Error(n, e)
		}
		if n, e := opaque.All(c.progs, l, make([]api.Attempt, 2)); n != 0 || e != c.e {
			t.Error(n, e)
		}
		if n, e := opaque.All(c.progs, l, nil); n != -1 || e != api.OK {
			t.Error(n, e)
		}
	}
}

func attempt(since int, reads ...api.Read) api.Attempt {
	return api.Attempt{Since: since, Reads: reads}
}

func read(field, n int) api.Read { return api.Read{Ref: root, Field: field, V: num(n)} }

func TestRead(t *testing.T) { // P23.2
	progs := programs(t, sets)
	l := []api.Event{plain(0, 2, 4), plain(0, 4, 9), plain(0, 6, 11), plain(0, 6, 30)}
	gone := api.Read{Ref: value.Nil(), V: num(0)}
	for _, c := range []struct {
		a api.Attempt
		n int
		e api.Errno
	}{
		{attempt(3), -1, api.OK}, {attempt(3, read(8, 0), read(9, 0)), -1, api.OK}, {attempt(4, read(8, 5), read(9, 0)), -1, api.OK}, {attempt(4, read(8, 0)), 0, api.OK}, {attempt(9, read(8, 6), read(9, 7)), 1, api.OK}, {attempt(11, read(8, 6), read(9, 7)), -1, api.OK},
		{attempt(11, read(8, 6), gone), 1, api.OK}, {attempt(11, read(8, 6), read(16, 0)), 1, api.OK}, {attempt(11, read(8, 6), api.Read{Ref: root, Field: 16}), 1, api.OK}, {attempt(30), 0, api.ErrOpaque},
	} {
		if n, e := opaque.Read(progs, l, c.a); n != c.n || e != c.e {
			t.Error(c, n, e)
		}
		all, want := []api.Attempt{attempt(4, read(8, 5)), c.a, attempt(0, read(8, 77))}, 2
		if c.n >= 0 {
			want = 1
		}
		if n, e := opaque.All(progs, l, all); n != want || e != c.e {
			t.Error(c, n, e)
		}
	}
	if n, e := opaque.All(progs, l, []api.Attempt{attempt(4, read(8, 5))}); n != -1 || e != api.OK {
		t.Error(n, e)
	}
}

func step(k api.StepKind, th, began int) api.Step { return api.Step{Kind: k, Thread: th, Began: began} }

func TestPassed(t *testing.T) { // P23.3
	log := []api.Step{ // numbers from 1 on
		step(api.SEpoch, 0, 1), step(api.SClock, 0, 1), step(api.SEpoch, 1, 3), step(api.SClock, 0, 1), step(api.SCheck, 0, 1), // 1 to 5
		step(api.SFree, 1, 3), step(api.SFree, 0, 1), step(api.SEpoch, 0, 1), step(api.SLocal, 1, 0), step(api.SLocal, 0, 0), // 6 to 10
		step(api.SFree, 0, 0), step(api.SEpoch, 0, 12), step(api.SFree, 0, 1),
	}
	for _, c := range []struct {
		v    api.Event
		n    int
		want bool
	}{
		{api.Event{Kind: api.EBlock, Moment: 4, End: 5}, 10, true}, {api.Event{Kind: api.EBlock, Moment: 4, End: 6}, 10, true}, {api.Event{Kind: api.EBlock, Moment: 4, End: 7}, 0, false}, // no SFree behind its end
		{api.Event{Kind: api.EBlock, Moment: 1, End: 1}, 10, true}, {api.Event{Kind: api.EBlock, Thread: 1, Moment: 3, End: 3}, 9, true},
		{api.Event{Kind: api.EPlain, Moment: 4, End: 5}, 0, false}, {api.Event{Kind: api.EFail, Moment: 4, End: 5}, 0, false}, {api.Event{Moment: 4, End: 5}, 0, false},
		{api.Event{Kind: api.EBlock, Moment: 0, End: 5}, 0, false}, {api.Event{Kind: api.EBlock, Moment: 14, End: 5}, 0, false}, {api.Event{Kind: api.EBlock, Moment: 4, End: 0}, 0, false}, {api.Event{Kind: api.EBlock, Moment: 4, End: 14}, 0, false}, {api.Event{Kind: api.EBlock, Moment: -5, End: 1 << 60}, 0, false},
		{api.Event{Kind: api.EBlock, Thread: 1, Moment: 3, End: 3}, 9, true}, {api.Event{Kind: api.EBlock, Thread: 1, Moment: 9, End: 9}, 0, false}, // there is no next one
		{api.Event{Kind: api.EBlock, Moment: 10, End: 10}, 12, true}, {api.Event{Kind: api.EBlock, Moment: 12, End: 12}, 0, false}, {api.Event{Kind: api.EBlock, Thread: 7, Moment: 4, End: 5}, 0, false},
		{api.Event{Kind: api.EBlock, Moment: 12, End: 11}, 0, false}, {api.Event{Kind: api.EBlock, Moment: 13, End: 13}, 0, false},
	} {
		if n, ok := opaque.Passed(log, c.v); n != c.n || ok != c.want {
			t.Error(c, n, ok)
		}
	}
	for n := 8; n < 11; n++ { // the next one may be the last step
		if from, ok := opaque.Passed(log[:n], api.Event{Kind: api.EBlock, Moment: 4, End: 5}); ok != (n == 10) || ok && from != 10 {
			t.Error(n, from, ok)
		}
	}
	if n, ok := opaque.Passed(nil, api.Event{Kind: api.EBlock}); n != 0 || ok {
		t.Error(n, ok)
	}
}

func TestLate(t *testing.T) { // P23.3
	log := func(last ...api.Step) []api.Step {
		return append([]api.Step{step(api.SEpoch, 1, 1), step(api.SEpoch, 0, 2), step(api.SClock, 0, 2), step(api.SFree, 0, 2), step(api.SUndo, 1, 1), step(api.SLocal, 0, 0)}, last...)
	}
	l := []api.Event{{Kind: api.EPlain, Moment: 9, End: 9}, {Kind: api.EBlock, Thread: 0, Moment: 3, End: 3}}
	for _, c := range []struct {
		last []api.Step
		n    int
	}{
		{nil, 0}, {[]api.Step{step(api.SStore, 1, 1)}, 7}, {[]api.Step{step(api.SLoad, 1, 1), step(api.SUndo, 1, 2), step(api.SStore, 1, 1)}, 8},
		{[]api.Step{step(api.SStore, 1, 3)}, 0}, {[]api.Step{step(api.SStore, 1, 0)}, 0}, {[]api.Step{step(api.SStore, 1, -1)}, 0}, {[]api.Step{step(api.SStore, 0, 1)}, 0}, {[]api.Step{step(api.SFree, 1, 1), step(api.SHeap, 1, 1), step(api.SMark, 1, 1)}, 0}, {[]api.Step{step(api.SStore, 99, 2)}, 7},
	} {
		if n := opaque.Late(log(c.last...), l); n != c.n {
			t.Error(c, n)
		}
	}
	if opaque.Late(log(step(api.SStore, 1, 1)), nil) != 0 || opaque.Late(nil, l) != 0 {
		t.Error("no events, no log")
	}
}

// slow is Late, as the document says it.
func slow(log []api.Step, events []api.Event) int {
	for n, s := range log {
		for _, v := range events {
			from, ok := opaque.Passed(log, v)
			if ok && from <= n+1 && s.Thread != v.Thread && (s.Kind == api.SStore || s.Kind == api.SUndo) && s.Began > 0 && s.Began < v.Moment {
				return n + 1
			}
		}
	}
	return 0
}

func TestLateRandomly(t *testing.T) {
	r := rand.New(rand.NewSource(1))
	found := 0
	for range 3000 {
		var log []api.Step
		began := [3]int{1, 1, 1}
		for n := range 30 {
			th := r.Intn(3)
			if r.Intn(4) == 0 {
				began[th] = r.Intn(n + 1)
			}
			log = append(log, step([]api.StepKind{api.SFree, api.SStore, api.SUndo, api.SLocal}[r.Intn(4)], th, began[th]))
		}
		var l []api.Event
		for range r.Intn(5) {
			n := 1 + r.Intn(30)
			l = append(l, api.Event{Kind: api.EBlock, Thread: log[n-1].Thread, Moment: n, End: min(30, n+r.Intn(3))})
		}
		want := slow(log, l)
		if got := opaque.Late(log, l); got != want {
			t.Fatal(log, l, got, want)
		}
		if want > 0 {
			found++
		}
	}
	if found < 100 {
		t.Error("too few", found)
	}
}

// some is a program by chance, that takes objects out of the root and writes them behind its fence.
func some(r *rand.Rand) string {
	l := []string{"root r0", "const r2 1", "const r7 1", "new r4 2 1", "set r0 1 r4"}
	depth, other := 0, []int{}
	for range r.Intn(40) {
		switch k := r.Intn(16); {
		case k < 2 && depth < 3:
			l, depth, other = append(l, "begin"), depth+1, append(other, 0)
		case k == 2 && depth > 0:
			l, depth, other = append(l, "end"), depth-1, other[:depth-1]
		case k == 3 && depth > 0 && other[depth-1] == 0:
			l, other[depth-1] = append(l, "else"), 1
		case k == 4 && depth > 0 && r.Intn(3) == 0:
			l = append(l, "retry")
		case k < 8:
			l = append(l, []string{"get r3 r0 8", "get r2 r0 9", "get r5 r0 1", "get r5 r0 2"}[r.Intn(4)])
		case k < 11:
			l = append(l, []string{"set r0 8 r2", "set r0 9 r2", "set r0 1 r4", "set r0 2 r5", "nil r5; set r0 1 r5; get r5 r0 2"}[r.Intn(5)])
		case k < 13:
			l = append(l, []string{"get r3 r4 1", "set r4 1 r2", "set r4 0 r5"}[r.Intn(3)])
		case k == 13:
			l = append(l, "new r4 2 1")
		case k == 14 && depth > 0:
			l = append(l, []string{"free r4", "move r6 r6"}[r.Intn(2)])
		default:
			l = append(l, "add r2 r2 r7")
		}
	}
	for range depth {
		l = append(l, "end")
	}
	return strings.Join(l, "; ")
}

// P23.4, P23.5, and P2 and P4 of the whole.
func TestMachines(t *testing.T) {
	fences := 0
	for seed := range int64(250) {
		r := rand.New(rand.NewSource(seed))
		c := api.Conf{Words: 150, Orecs: 1 + r.Intn(20), Reads: 10, Undo: 10, Clock: 1000, Manager: api.Greedy}
		if r.Intn(3) == 0 {
			c.Manager, c.Tries = api.Polite, 1+r.Intn(3)
		}
		progs := programs(t, some(r), some(r), some(r))
		m, e := machine.New(c, progs)
		if e != api.OK {
			t.Fatal(e)
		}
		for range 400 {
			m.Pick(r.Intn(3))
			if n, e := opaque.All(progs, m.Events(), m.Attempts()); n != -1 || e != api.OK {
				t.Fatal(seed, m.Steps(), n, e)
			}
		}
		l := m.Events()
		if n := opaque.Late(m.Log(), l); n != 0 {
			t.Fatal(seed, n)
		}
		for _, v := range l {
			if _, ok := opaque.Passed(m.Log(), v); ok {
				fences++
			}
		}
	}
	if fences < 100 {
		t.Error("too few fences", fences)
	}
}
