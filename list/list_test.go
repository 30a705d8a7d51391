package list_test

import (
	"math"
	"math/rand"
	"reflect"
	"sort"
	"testing"

	"gantlet/api"
	"gantlet/check"
	"gantlet/instr"
	"gantlet/list"
	"gantlet/machine"
	"gantlet/model"
	"gantlet/order"
	"gantlet/value"
)

func num(n int) api.Val { return value.Number(n) }

var root, _ = value.Of(1, 1)

var emit = api.Instr{Op: api.OEmit, A: 7}

// wild has all registers something else than at first.
func wild() []api.Instr {
	p := []api.Instr{{Op: api.ORoot, A: 7}}
	for r := range 7 {
		p = append(p, api.Instr{Op: api.OConst, A: r, B: 77})
	}
	return p
}

type maker func(at int) ([]api.Instr, api.Errno)

func insert(slot, key int) maker {
	return func(at int) ([]api.Instr, api.Errno) { return list.Insert(at, slot, key) }
}

func remove(slot, key int) maker {
	return func(at int) ([]api.Instr, api.Errno) { return list.Remove(at, slot, key) }
}

func has(slot, key int) maker {
	return func(at int) ([]api.Instr, api.Errno) { return list.Has(at, slot, key) }
}

func detach(slot int) maker {
	return func(at int) ([]api.Instr, api.Errno) { return list.Detach(at, slot) }
}

// join puts pieces into a program, each of which tells its result.
func join(t *testing.T, makers ...maker) []api.Instr {
	t.Helper()
	p := wild()
	for _, f := range makers {
		l, e := f(len(p))
		if e != api.OK || len(l) < 1 || len(l) > 60 {
			t.Fatal(len(l), e)
		}
		p = append(append(p, l...), emit)
	}
	p = append(p, api.Instr{Op: api.OHalt})
	if e := check.Check(p); e != api.OK {
		t.Fatal(e, check.Wrong(p), p)
	}
	return p
}

func made(t *testing.T, progs ...[]api.Instr) *model.Model {
	t.Helper()
	m, e := model.New(progs)
	if e != api.OK {
		t.Fatal(e)
	}
	return m
}

// next does a thread's next unit, with at most one new object; false: there is none.
func next(t *testing.T, m *model.Model, th int, names *int) bool {
	t.Helper()
	k, pc := m.Next(th)
	if k == api.NoEvent {
		return false
	}
	if m.Do(api.Event{Kind: k, Thread: th, PC: pc}) == api.OK {
		return true
	}
	*names++
	ref, _ := value.Of(1, 100+*names)
	if e := m.Do(api.Event{Kind: k, Thread: th, PC: pc, News: []api.Val{ref}}); e != api.OK {
		t.Fatal(th, pc, e)
	}
	return true
}

// told runs a thread alone, and tells what it told.
func told(t *testing.T, m *model.Model, th int, names *int) []api.Val {
	t.Helper()
	for next(t, m, th, names) {
	}
	m.Finish()
	r, _ := m.Report(th)
	if r.Status != api.Halted {
		t.Fatal(r)
	}
	return r.Emits
}

func TestWrongArguments(t *testing.T) {
	big := api.MaxConst
	for _, at := range []int{-1, 401, math.MinInt, math.MaxInt} {
		for _, f := range []maker{insert(0, 0), remove(0, 0), has(0, 0), detach(0), list.Sum} {
			if p, e := f(at); p != nil || e != api.ErrLib {
				t.Error(at, e)
			}
		}
	}
	for _, slot := range []int{-1, 8} {
		for _, f := range []maker{insert(slot, 0), remove(slot, 0), has(slot, 0), detach(slot)} {
			if p, e := f(0); p != nil || e != api.ErrLib {
				t.Error(slot, e)
			}
		}
	}
	for _, key := range []int{big + 1, -big - 1, math.MinInt} {
		for _, f := range []maker{insert(0, key), remove(0, key), has(0, key)} {
			if p, e := f(0); p != nil || e != api.ErrLib {
				t.Error(key, e)
			}
		}
	}
}

func TestPieces(t *testing.T) { // the word 'a piece': at each place, one block, ends behind its last one
	for _, at := range []int{0, 1, 17, 399, 400} {
		for n, f := range []maker{insert(7, api.MaxConst), remove(7, -api.MaxConst), has(0, 0), detach(3), list.Sum} {
			l, e := f(at)
			if e != api.OK || len(l) < 1 || len(l) > 60 {
				t.Fatal(at, n, len(l), e)
			}
			p := make([]api.Instr, at)
			for i := range p {
				p[i] = api.Instr{Op: api.ONil}
			}
			p = append(p, l...)
			if e := check.Check(p); e != api.OK {
				t.Error(at, n, e)
			}
			if blocks := check.Blocks(p); (len(blocks) == 1) != (n < 4) || len(blocks) > 1 {
				t.Error(at, n, blocks)
			}
			for place, i := range p {
				begin, _ := check.Branch(p, place)
				if memory := i.Op >= api.ONew && i.Op <= api.OSet; memory && (begin < 0) != (n == 4) {
					t.Error("memory outside of the block", n, i)
				}
				if to, jump := instr.Target(i); jump && (to < at || to > len(p)) {
					t.Error("a jump out of the piece", i)
				}
			}
		}
	}
}

func TestSet(t *testing.T) { // P24.1, P24.3, the example
	names := 0
	p := join(t, insert(2, 5), insert(2, 3), insert(2, 5), has(2, 3), has(2, 4), has(3, 3), insert(2, 9), insert(2, 4), remove(2, 5), remove(2, 5), remove(2, 1), remove(2, 3), remove(2, 99), insert(2, -7))
	m := made(t, p)
	want := []int{1, 1, 0, 1, 0, 0, 1, 1, 1, 0, 0, 1, 0, 1}
	for n, v := range told(t, m, 0, &names) {
		if v != num(want[n]) {
			t.Error(n, v)
		}
	}
	if l, e := list.Keys(m.Objects(), root, 2); e != api.OK || !reflect.DeepEqual(l, []int{-7, 4, 9}) {
		t.Error(l, e)
	}
	if n := len(m.Objects()); n != 4 { // nodes that were removed are given back
		t.Error(n)
	}
	for slot := range 8 {
		if l, e := list.Keys(m.Objects(), root, slot); slot != 2 && (len(l) != 0 || e != api.OK) {
			t.Error(slot, l, e)
		}
	}
}

func TestDetachSum(t *testing.T) { // P24.2
	names := 0
	for _, keys := range [][]int{nil, {4}, {1, -5, 9}, {api.MaxConst, api.MaxConst - 1}} {
		var makers []maker
		sum := 0
		for _, k := range keys {
			makers = append(makers, insert(1, k))
			sum += k
		}
		makers = append(makers, detach(1), list.Sum, detach(1))
		m := made(t, join(t, makers...))
		l := told(t, m, 0, &names)
		first, total, empty := l[len(keys)], l[len(keys)+1], l[len(keys)+2]
		if total != num(sum) || empty != value.Nil() || value.IsNil(first) != (len(keys) == 0) || first.K != api.Ref {
			t.Error(keys, first, total, empty)
		}
		if l, e := list.Keys(m.Objects(), root, 1); len(l) != 0 || e != api.OK || len(m.Objects()) != len(keys)+1 {
			t.Error(keys, l, e)
		}
	}
}

func TestSteps(t *testing.T) { // at most 64 instructions, and 64 more a node
	for nodes := range 6 {
		for _, f := range []maker{insert(0, 99), remove(0, 99), has(0, 99), insert(0, nodes), remove(0, nodes-1), insert(0, -1)} {
			c := api.Conf{Words: 500, Orecs: 8, Reads: 100, Undo: 100, Clock: 1000, Manager: api.Greedy}
			var p []api.Instr
			for k := range nodes {
				l, _ := list.Insert(len(p), 0, k)
				p = append(p, l...)
			}
			from := len(p)
			l, _ := f(from)
			p = append(p, l...)
			m, e := machine.New(c, [][]api.Instr{p})
			if e != api.OK {
				t.Fatal(e)
			}
			n := 0
			for !m.Over() {
				pc := m.Reports()[0].PC
				s, _ := m.Pick(0)
				if pc >= from && (s.Kind == api.SLocal || s.Kind == api.SLook || s.Kind == api.SHeap) { // each instruction of memory looks once, or makes
					n++
				}
			}
			if n > 64+64*nodes {
				t.Error(nodes, n)
			}
		}
	}
}

func object(n int, s api.State, f ...api.Val) api.Object {
	ref, _ := value.Of(1, n)
	return api.Object{Ref: ref, Head: api.Head{Gen: 1, Fields: len(f), State: s}, F: f}
}

func ref(n int) api.Val { v, _ := value.Of(1, n); return v }

func TestKeys(t *testing.T) { // P24.3
	nilv := value.Nil()
	row := func(l ...api.Object) []api.Object {
		return append([]api.Object{object(1, api.Shared, nilv, ref(20), nilv, nilv, num(5))}, l...)
	}
	good := []api.Object{object(30, api.Private, nilv, num(7)), object(20, api.Shared, ref(30), num(4)), object(20, api.Freed, nilv)}
	if l, e := list.Keys(row(good...), ref(1), 1); e != api.OK || !reflect.DeepEqual(l, []int{4, 7}) {
		t.Error(l, e)
	}
	if l, e := list.Keys(row(), ref(1), 0); e != api.OK || len(l) != 0 {
		t.Error(l, e)
	}
	for i, c := range []struct {
		l    []api.Object
		root api.Val
		slot int
	}{
		{row(good...), ref(1), -1}, {row(good...), ref(1), 8}, {row(good...), ref(1), 5}, {row(good...), nilv, 1}, {row(good...), ref(2), 1}, {row(good...), num(1<<20 + 1), 1}, {row(good...), api.Val{}, 1}, {nil, ref(1), 1},
		{append([]api.Object{object(1, api.Shared)}, row(good...)...), ref(1), 1}, // the first one with that Ref
		{row(good...), ref(1), 4}, {row(), ref(1), 1}, {row(object(20, api.Freed, nilv, num(4))), ref(1), 1}, {row(object(20, api.Shared, nilv)), ref(1), 1}, {row(object(20, api.Shared, nilv, num(4), num(4))), ref(1), 1},
		{row(object(20, api.Shared, num(0), num(4))), ref(1), 1}, {row(object(20, api.Shared, nilv, nilv)), ref(1), 1}, {row(object(20, api.Shared, nilv, api.Val{})), ref(1), 1},
		{row(object(20, api.Shared, ref(30), num(4)), object(30, api.Shared, nilv, num(4))), ref(1), 1}, {row(object(20, api.Shared, ref(30), num(4)), object(30, api.Shared, nilv, num(3))), ref(1), 1}, {row(object(20, api.Shared, ref(20), num(4))), ref(1), 1}, {row(object(20, api.Shared, ref(99), num(4))), ref(1), 1},
	} {
		if l, e := list.Keys(c.l, c.root, c.slot); l != nil || e != api.ErrLib {
			t.Error(i, l, e)
		}
	}
	num7 := append(row(), api.Object{Ref: num(7), F: []api.Val{nilv, num(1)}})
	num7[0].F[1] = num(7) // a number is no reference
	if l, e := list.Keys(num7, ref(1), 1); l != nil || e != api.ErrLib {
		t.Error(l, e)
	}
}

// op is what a piece does to a set.
type op struct{ kind, key int }

func (o op) maker() maker {
	return []func(slot, key int) maker{insert, remove, has}[o.kind](0, o.key)
}

func (o op) do(set map[int]bool) int {
	was := set[o.key]
	switch o.kind {
	case 0:
		set[o.key] = true
		was = !was
	case 1:
		delete(set, o.key)
	}
	if was {
		return 1
	}
	return 0
}

func keys(set map[int]bool) []int {
	var l []int
	for k := range set {
		l = append(l, k)
	}
	sort.Ints(l)
	return l
}

// P24.4: blocks of three threads in any order: each result is that of a set, and the keys are it.
func TestASet(t *testing.T) {
	for seed := range int64(150) {
		r := rand.New(rand.NewSource(seed))
		ops := make([][]op, 3)
		var progs [][]api.Instr
		for th := range ops {
			var makers []maker
			for range 1 + r.Intn(8) {
				o := op{r.Intn(3), r.Intn(6)}
				ops[th] = append(ops[th], o)
				makers = append(makers, o.maker())
			}
			progs = append(progs, join(t, makers...))
		}
		m := made(t, progs...)
		names, set := 0, map[int]bool{}
		want := make([][]api.Val, 3)
		for range 200 {
			th := r.Intn(3)
			if !next(t, m, th, &names) {
				continue
			}
			o := ops[th][len(want[th])]
			want[th] = append(want[th], num(o.do(set)))
			if l, e := list.Keys(m.Objects(), root, 0); e != api.OK || !value.Same(vals(l), vals(keys(set))) {
				t.Fatal(seed, l, keys(set), e)
			}
		}
		m.Finish()
		for th := range want {
			if rep, _ := m.Report(th); !value.Same(rep.Emits, want[th]) || rep.Status != api.Halted {
				t.Fatal(seed, th, rep, want[th])
			}
		}
	}
}

func vals(l []int) []api.Val {
	var v []api.Val
	for _, n := range l {
		v = append(v, num(n))
	}
	return v
}

// P24.4, P24.5: on the machine, whoever is picked; whoever detached a list sums it up alone.
func TestMachine(t *testing.T) {
	for seed := range int64(60) {
		r := rand.New(rand.NewSource(seed))
		one := join(t, insert(0, 3), insert(0, 8), insert(0, 5), detach(0), list.Sum, insert(0, 1), detach(0), list.Sum)
		two := join(t, insert(0, 4), insert(0, 6), remove(0, 6), insert(0, 9), detach(0), list.Sum)
		three := join(t, insert(0, 10), has(0, 4), insert(0, 20), detach(0), list.Sum)
		progs := [][]api.Instr{one, two, three}
		c := api.Conf{Words: 300, Orecs: 1 + r.Intn(16), Reads: 50, Undo: 50, Clock: 1000, Manager: api.Greedy}
		m, e := machine.New(c, progs)
		if e != api.OK {
			t.Fatal(e)
		}
		for n := 0; !m.Over() && n < 50000; n++ {
			th := n % 3
			if n < 1500 {
				th = r.Intn(3)
			}
			m.Pick(th)
		}
		l := m.Events()
		if n, e := order.Judge(progs, l, m.Reports(), m.Undone()); n != len(l) || e != api.OK || !m.Over() {
			t.Fatal(seed, n, e, m.Over())
		}
		reps, sum := m.Reports(), 0
		for _, x := range []struct{ th, at int }{{0, 4}, {0, 7}, {1, 5}, {2, 4}} {
			sum += reps[x.th].Emits[x.at].N
		}
		left, e := list.Keys(m.Undone(), root, 0)
		for _, k := range left {
			sum += k
		}
		if reps[1].Emits[2] == num(1) {
			sum += 6
		}
		if want := 3 + 8 + 5 + 1 + 4 + 6 + 9 + 10 + 20; e != api.OK || sum != want {
			t.Fatal(seed, sum, want, e)
		}
	}
}
