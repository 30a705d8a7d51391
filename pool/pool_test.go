package pool_test

import (
	"math"
	"math/rand"
	"reflect"
	"testing"

	"gantlet/api"
	"gantlet/check"
	"gantlet/instr"
	"gantlet/machine"
	"gantlet/model"
	"gantlet/order"
	"gantlet/pool"
	"gantlet/value"
)

func num(n int) api.Val { return value.Number(n) }

func ref(n int) api.Val { v, _ := value.Of(1, n); return v }

var (
	root = ref(1)
	emit = api.Instr{Op: api.OEmit, A: 7}
	tell = []api.Instr{{Op: api.OGet, A: 6, B: 7, C: 1}, {Op: api.OEmit, A: 6}} // the value of an item
)

// wild has all registers but the last something else than at first.
func wild() []api.Instr {
	var p []api.Instr
	for r := range 7 {
		p = append(p, api.Instr{Op: api.OConst, A: r, B: 77})
	}
	return p
}

type maker func(at int) ([]api.Instr, api.Errno)

func create(n int) maker {
	return func(at int) ([]api.Instr, api.Errno) { return pool.New(at, n) }
}

func put(slot int) maker {
	return func(at int) ([]api.Instr, api.Errno) { return pool.Put(at, slot) }
}

func take(slot int) maker {
	return func(at int) ([]api.Instr, api.Errno) { return pool.Take(at, slot) }
}

func wait(slot int) maker {
	return func(at int) ([]api.Instr, api.Errno) { return pool.Wait(at, slot) }
}

func either(a, b int) maker {
	return func(at int) ([]api.Instr, api.Errno) { return pool.Either(at, a, b) }
}

func raw(l ...api.Instr) maker {
	return func(at int) ([]api.Instr, api.Errno) { return l, api.OK }
}

// join puts pieces into a program, with wild registers ahead of each but the last register.
func join(t *testing.T, makers ...maker) []api.Instr {
	t.Helper()
	var p []api.Instr
	for _, f := range makers {
		p = append(p, wild()...)
		l, e := f(len(p))
		if e != api.OK || len(l) < 1 || len(l) > 40 {
			t.Fatal(len(l), e)
		}
		p = append(p, l...)
	}
	p = append(p, api.Instr{Op: api.OHalt})
	if e := check.Check(p); e != api.OK {
		t.Fatal(e, check.Wrong(p), p)
	}
	return p
}

func TestWrongArguments(t *testing.T) {
	for _, at := range []int{-1, 401, math.MinInt, math.MaxInt} {
		for i, f := range []maker{create(0), put(0), take(0), wait(0), either(0, 0), pool.Bump} {
			if p, e := f(at); p != nil || e != api.ErrLib {
				t.Error(at, i, e)
			}
		}
	}
	for _, slot := range []int{-1, 8, math.MaxInt} {
		for i, f := range []maker{put(slot), take(slot), wait(slot), either(slot, 0), either(0, slot)} {
			if p, e := f(0); p != nil || e != api.ErrLib {
				t.Error(slot, i, e)
			}
		}
	}
	for _, n := range []int{api.MaxConst + 1, -api.MaxConst - 1, math.MinInt} {
		if p, e := pool.New(0, n); p != nil || e != api.ErrLib {
			t.Error(n, e)
		}
	}
}

func TestPieces(t *testing.T) { // the word 'a piece'
	for _, at := range []int{0, 1, 33, 400} {
		for n, f := range []maker{create(api.MaxConst), pool.Bump, create(-api.MaxConst), put(7), take(7), wait(0), either(7, 0), either(3, 3)} {
			l, e := f(at)
			if e != api.OK || len(l) < 1 || len(l) > 40 {
				t.Fatal(at, n, len(l), e)
			}
			p := make([]api.Instr, at)
			for i := range p {
				p[i] = api.Instr{Op: api.ONil}
			}
			p = append(p, l...)
			if e := check.Check(p); e != api.OK || (len(check.Blocks(p)) == 1) != (n > 2) || len(check.Blocks(p)) > 1 {
				t.Error(at, n, e, check.Blocks(p))
			}
			for place, i := range p {
				begin, _ := check.Branch(p, place)
				if memory := i.Op >= api.ONew && i.Op <= api.OSet; memory && (begin < 0) != (n <= 2) || i.Op == api.ONew && n != 0 && n != 2 {
					t.Error("memory", n, i)
				}
				if to, jump := instr.Target(i); jump && (to <= place || to > len(p)) { // no jump back: at most as many as it has
					t.Error("a jump", i)
				}
			}
		}
	}
}

func made(t *testing.T, progs ...[]api.Instr) *model.Model {
	t.Helper()
	m, e := model.New(progs)
	if e != api.OK {
		t.Fatal(e)
	}
	return m
}

var names = 100

// next does a thread's next unit, with at most one new object; false: there is none, or it can't be done now.
func next(t *testing.T, m *model.Model, th int) bool {
	t.Helper()
	k, pc := m.Next(th)
	if k == api.NoEvent {
		return false
	}
	if m.Do(api.Event{Kind: k, Thread: th, PC: pc}) == api.OK {
		return true
	}
	names++
	return m.Do(api.Event{Kind: k, Thread: th, PC: pc, News: []api.Val{ref(names)}}) == api.OK
}

// alone runs one program, and tells how it stands.
func alone(t *testing.T, makers ...maker) (*model.Model, api.Report) {
	t.Helper()
	m := made(t, join(t, makers...))
	for next(t, m, 0) {
	}
	m.Finish()
	r, _ := m.Report(0)
	return m, r
}

func items(t *testing.T, m *model.Model, slot int, want ...int) {
	t.Helper()
	l, e := pool.Items(m.Objects(), root, slot)
	if e != api.OK || len(l)+len(want) > 0 && !reflect.DeepEqual(l, want) {
		t.Error(slot, l, e, want)
	}
}

func emits(t *testing.T, r api.Report, want ...api.Val) {
	t.Helper()
	if r.Status != api.Halted || !value.Same(r.Emits, want) {
		t.Error(r, want)
	}
}

func TestOnePool(t *testing.T) { // P26.1, P26.2, the example
	m, r := alone(t, create(5), put(3), raw(emit), create(6), put(3), take(3), raw(tell...))
	emits(t, r, value.Nil(), num(6))
	items(t, m, 3, 5)
	o := m.Objects()[2]
	if len(m.Objects()) != 3 || o.F[0] != value.Nil() || o.Head.Mask != 1 || o.Head.Fields != 2 {
		t.Error("with nil below it", o)
	}
	m, r = alone(t, take(3), raw(emit), create(-4), pool.Bump, pool.Bump, raw(tell...), raw(api.Instr{Op: api.OGet, A: 5, B: 7, C: 0}, api.Instr{Op: api.OEmit, A: 5}))
	emits(t, r, value.Nil(), num(-2), value.Nil())
	if len(m.Objects()) != 2 || m.Objects()[1].Head.State != api.Private {
		t.Error(m.Objects())
	}
	m, r = alone(t, create(1), put(0), create(2), put(0), create(3), put(0), take(0), take(0), raw(tell...), put(4), take(7), raw(emit))
	emits(t, r, num(2), value.Nil())
	items(t, m, 0, 1)
	items(t, m, 4, 2)
}

func TestBumpGoesRound(t *testing.T) { // modulo 2^64
	big := api.Instr{Op: api.OConst, A: 0, B: api.MaxConst}
	grow := []api.Instr{big}
	for range 22 {
		grow = append(grow, api.Instr{Op: api.OAdd, A: 0, B: 0, C: 0})
	}
	grow = append(grow, api.Instr{Op: api.OConst, A: 1, B: 1}, api.Instr{Op: api.OSub, A: 2, B: 0, C: 1}, api.Instr{Op: api.OAdd, A: 2, B: 2, C: 0}, api.Instr{Op: api.OSet, A: 7, B: 1, C: 2}) // 2^63 - 1
	_, r := alone(t, create(0), raw(grow...), pool.Bump, raw(tell...))
	emits(t, r, num(math.MinInt))
}

func TestWaitEither(t *testing.T) { // P26.3
	_, r := alone(t, wait(2), raw(emit))
	if r.Status != api.Running || len(r.Emits) != 0 {
		t.Error(r)
	}
	_, r = alone(t, create(7), put(1), either(2, 2), raw(emit))
	if r.Status != api.Running || len(r.Emits) != 0 {
		t.Error(r)
	}
	m, r := alone(t, create(8), put(2), create(9), put(2), wait(2), raw(tell...), wait(2), raw(tell...), raw(emit), wait(2))
	if r.Status != api.Running || len(r.Emits) != 3 || r.Emits[0] != num(9) || r.Emits[1] != num(8) {
		t.Error(r)
	}
	items(t, m, 2)
	m, r = alone(t, create(1), put(5), create(2), put(6), either(5, 6), raw(tell...), either(5, 6), raw(tell...), create(3), put(4), either(4, 4), raw(tell...), raw(api.Instr{Op: api.OGet, A: 5, B: 7, C: 0}, api.Instr{Op: api.OEmit, A: 5}))
	emits(t, r, num(1), num(2), num(3), value.Nil())
	for slot := range 8 {
		items(t, m, slot)
	}
}

func object(n int, s api.State, f ...api.Val) api.Object {
	return api.Object{Ref: ref(n), Head: api.Head{Gen: 1, Fields: len(f), State: s}, F: f}
}

func TestItems(t *testing.T) { // P26.4
	nilv := value.Nil()
	row := func(l ...api.Object) []api.Object {
		return append([]api.Object{object(1, api.Shared, nilv, ref(20), nilv, nilv, num(5))}, l...)
	}
	good := []api.Object{object(30, api.Private, nilv, num(4)), object(20, api.Shared, ref(30), num(4)), object(20, api.Freed, nilv)}
	if l, e := pool.Items(row(good...), ref(1), 1); e != api.OK || !reflect.DeepEqual(l, []int{4, 4}) {
		t.Error(l, e)
	}
	if l, e := pool.Items(row(), ref(1), 0); e != api.OK || len(l) != 0 {
		t.Error(l, e)
	}
	for i, c := range []struct {
		l    []api.Object
		root api.Val
		slot int
	}{
		{row(good...), ref(1), -1}, {row(good...), ref(1), 8}, {row(good...), ref(1), 5}, {row(good...), nilv, 1}, {row(good...), ref(2), 1}, {row(good...), num(1<<20 + 1), 1}, {row(good...), api.Val{}, 1}, {nil, ref(1), 1},
		{append([]api.Object{object(1, api.Shared)}, row(good...)...), ref(1), 1}, // the first one with that Ref
		{row(good...), ref(1), 4}, {row(), ref(1), 1}, {row(object(20, api.Freed, nilv, num(4))), ref(1), 1}, {row(object(20, api.Shared, nilv)), ref(1), 1}, {row(object(20, api.Shared, nilv, num(4), num(4))), ref(1), 1},
		{row(object(20, api.Shared, num(0), num(4))), ref(1), 1}, {row(object(20, api.Shared, nilv, nilv)), ref(1), 1}, {row(object(20, api.Shared, nilv, api.Val{})), ref(1), 1},
		{row(object(20, api.Shared, ref(20), num(4))), ref(1), 1}, {row(object(20, api.Shared, ref(30), num(1)), object(30, api.Shared, ref(20), num(1))), ref(1), 1}, {row(object(20, api.Shared, ref(99), num(4))), ref(1), 1},
	} {
		if l, e := pool.Items(c.l, c.root, c.slot); l != nil || e != api.ErrLib {
			t.Error(i, l, e)
		}
	}
}

// P26.5: units of three threads in any order: each pool is a stack, and who waits goes on once there is one.
func TestStacks(t *testing.T) {
	for seed := range int64(150) {
		r := rand.New(rand.NewSource(seed))
		var progs [][]api.Instr
		ops := make([][][3]int, 3) // of each thread: what, and slots
		for th := range ops {
			var makers []maker
			for range 1 + r.Intn(6) {
				o := [3]int{r.Intn(4), r.Intn(2), r.Intn(2)}
				ops[th] = append(ops[th], o)
				switch o[0] {
				case 0:
					makers = append(makers, create(10*th+len(makers)), put(o[1]))
				case 1:
					makers = append(makers, take(o[1]), raw(emit))
				case 2:
					makers = append(makers, wait(o[1]), raw(emit))
				case 3:
					makers = append(makers, either(o[1], o[2]), raw(emit))
				}
			}
			progs = append(progs, join(t, makers...))
		}
		m := made(t, progs...)
		var stacks [2][]api.Val
		var want [3][]api.Val
		done := [3]int{}
		for range 300 {
			th := r.Intn(3)
			k, pc := m.Next(th)
			did := next(t, m, th)
			if k != api.EBlock {
				continue
			}
			o := ops[th][done[th]]
			slot := o[1]
			if o[0] == 3 && len(stacks[slot]) == 0 {
				slot = o[2]
			}
			if may := o[0] < 2 || len(stacks[slot]) > 0; may != did {
				t.Fatal(seed, th, pc, o, stacks, did)
			}
			if !did {
				continue
			}
			done[th]++
			if o[0] == 0 {
				stacks[slot] = append(stacks[slot], top(m, slot))
			} else if n := len(stacks[slot]); n > 0 {
				want[th] = append(want[th], stacks[slot][n-1])
				stacks[slot] = stacks[slot][:n-1]
			} else {
				want[th] = append(want[th], value.Nil())
			}
			for slot := range stacks {
				l, e := pool.Items(m.Objects(), root, slot)
				if e != api.OK || len(l) != len(stacks[slot]) {
					t.Fatal(seed, l, e, stacks)
				}
			}
		}
		m.Finish()
		for th := range want {
			if r, _ := m.Report(th); !value.Same(r.Emits, want[th]) {
				t.Fatal(seed, th, r, want[th])
			}
		}
	}
}

func top(m *model.Model, slot int) api.Val {
	v, _ := m.Has(root, slot)
	return v
}

// P26.5, P26.6: on the machine, whoever is picked: what is bumped outside of blocks is all there.
func TestMachine(t *testing.T) {
	for seed := range int64(60) {
		r := rand.New(rand.NewSource(seed))
		a := join(t, create(100), put(0), wait(0), pool.Bump, pool.Bump, put(1), wait(1), pool.Bump, put(0))
		b := join(t, either(0, 1), pool.Bump, put(0), take(1), raw(emit), wait(0), pool.Bump, put(0))
		c := join(t, create(200), put(1), either(1, 0), pool.Bump, pool.Bump, pool.Bump, put(1))
		progs := [][]api.Instr{a, b, c}
		conf := api.Conf{Words: 300, Orecs: 1 + r.Intn(16), Reads: 50, Undo: 50, Clock: 1000, Manager: api.Greedy}
		m, e := machine.New(conf, progs)
		if e != api.OK {
			t.Fatal(e)
		}
		for n := 0; !m.Over() && n < 30000; n++ {
			th := n % 3
			if n < 1500 {
				th = r.Intn(3)
			}
			m.Pick(th)
		}
		l := m.Events()
		if n, e := order.Judge(progs, l, m.Reports(), m.Undone()); n != len(l) || e != api.OK {
			t.Fatal(seed, n, e)
		}
		if !m.Over() { // somebody waits for an item that another one has kept
			continue
		}
		sum := 0
		for slot := range 2 {
			items, e := pool.Items(m.Undone(), root, slot)
			if e != api.OK {
				t.Fatal(seed, e)
			}
			for _, n := range items {
				sum += n
			}
		}
		if kept := m.Reports()[1].Emits[0]; !value.IsNil(kept) {
			for _, o := range m.Undone() {
				if o.Ref == kept {
					sum += o.F[1].N
				}
			}
		}
		if sum != 300+3+2+3 {
			t.Fatal(seed, sum)
		}
	}
}
