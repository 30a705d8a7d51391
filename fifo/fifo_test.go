package fifo_test

import (
	"math"
	"math/rand"
	"reflect"
	"slices"
	"testing"

	"gantlet/api"
	"gantlet/check"
	"gantlet/fifo"
	"gantlet/instr"
	"gantlet/machine"
	"gantlet/model"
	"gantlet/order"
	"gantlet/value"
)

func num(n int) api.Val { return value.Number(n) }

func ref(n int) api.Val { v, _ := value.Of(1, n); return v }

var (
	root = ref(1)
	emit = api.Instr{Op: api.OEmit, A: 7}
)

type maker func(at int) ([]api.Instr, api.Errno)

func put(q, n, most int) maker {
	return func(at int) ([]api.Instr, api.Errno) { return fifo.Put(at, q, n, most) }
}

func take(q int) maker {
	return func(at int) ([]api.Instr, api.Errno) { return fifo.Take(at, q) }
}

func try(q, n int) maker {
	return func(at int) ([]api.Instr, api.Errno) { return fifo.Try(at, q, n) }
}

func pass(q, to, most int) maker {
	return func(at int) ([]api.Instr, api.Errno) { return fifo.Pass(at, q, to, most) }
}

// join puts pieces into a program, with wild registers ahead of each, and its result told behind it.
func join(t *testing.T, makers ...maker) []api.Instr {
	t.Helper()
	var p []api.Instr
	for n, f := range makers {
		for r := range 8 {
			if n == 0 {
				p = append(p, api.Instr{Op: api.OConst, A: r, B: 77})
			}
		}
		l, e := f(len(p))
		if e != api.OK || len(l) < 1 || len(l) > 60 {
			t.Fatal(len(l), e)
		}
		p = append(append(p, l...), emit)
	}
	p = append(p, api.Instr{Op: api.OHalt})
	if e := check.Check(p); e != api.OK {
		t.Fatal(e, check.Wrong(p))
	}
	return p
}

func TestWrongArguments(t *testing.T) {
	big := api.MaxConst
	for _, at := range []int{-1, 401, math.MinInt, math.MaxInt} {
		for i, f := range []maker{put(0, 0, 1), take(0), try(0, 0), pass(0, 0, 1)} {
			if p, e := f(at); p != nil || e != api.ErrLib {
				t.Error(at, i, e)
			}
		}
	}
	for i, f := range []maker{
		put(-1, 0, 1), put(4, 0, 1), take(-1), take(4), try(-1, 0), try(4, 0), pass(-1, 0, 1), pass(4, 0, 1), pass(0, -1, 1), pass(0, 4, 1),
		put(0, big+1, 1), put(0, -big-1, 1), try(0, big+1), try(0, math.MinInt), put(0, 0, 0), put(0, 0, -1), put(0, 0, big+1), pass(0, 1, 0), pass(0, 1, big+1),
	} {
		if p, e := f(0); p != nil || e != api.ErrLib {
			t.Error(i, e)
		}
	}
}

func TestPieces(t *testing.T) { // the word 'a piece'
	for _, at := range []int{0, 1, 33, 400} {
		for n, f := range []maker{put(3, -api.MaxConst, api.MaxConst), put(0, api.MaxConst, 1), take(3), try(2, -api.MaxConst), pass(0, 3, 1), pass(1, 1, api.MaxConst)} {
			l, e := f(at)
			if e != api.OK || len(l) < 1 || len(l) > 60 {
				t.Fatal(at, n, len(l), e)
			}
			p := make([]api.Instr, at)
			for i := range p {
				p[i] = api.Instr{Op: api.ONil}
			}
			p = append(p, l...)
			if e := check.Check(p); e != api.OK || len(check.Blocks(p)) != 1 {
				t.Error(at, n, e)
			}
			news := 0
			for place, i := range p {
				begin, _ := check.Branch(p, place)
				if i.Op >= api.ONew && i.Op <= api.OSet && begin < 0 {
					t.Error("memory outside of the block", n, i)
				}
				if i.Op == api.ONew {
					news++
				}
				if to, jump := instr.Target(i); jump && to <= place { // no jump back: at most as many as it has
					t.Error("a jump", i)
				}
			}
			if makes := n < 2 || n > 3; (news > 0) != makes {
				t.Error(n, news)
			}
		}
	}
}

func made(t *testing.T, progs ...[]api.Instr) *model.Model {
	t.Helper()
	m, e := model.New(progs)
	if e != api.OK {
		t.Fatal(e)
	}
	return m
}

var names = 100

// next does a thread's next unit, with at most one new object; false: there is none, or it can't be done now.
func next(m *model.Model, th int) bool {
	k, pc := m.Next(th)
	if k == api.NoEvent {
		return false
	}
	if m.Do(api.Event{Kind: k, Thread: th, PC: pc}) == api.OK {
		return true
	}
	names++
	return m.Do(api.Event{Kind: k, Thread: th, PC: pc, News: []api.Val{ref(names)}}) == api.OK
}

// alone runs one program, and tells what it told till it could not go on.
func alone(t *testing.T, m *model.Model, want ...int) {
	t.Helper()
	for next(m, 0) {
	}
	m.Finish()
	r, _ := m.Report(0)
	if !value.Same(r.Emits, vals(want)) {
		t.Error(r, want)
	}
}

func vals(l []int) []api.Val {
	var v []api.Val
	for _, n := range l {
		v = append(v, num(n))
	}
	return v
}

func items(t *testing.T, m *model.Model, q int, want ...int) {
	t.Helper()
	l, e := fifo.Items(m.Objects(), root, q)
	if e != api.OK || !slices.Equal(l, want) {
		t.Error(q, l, e, want)
	}
}

func TestOneQueue(t *testing.T) { // P32.1, P32.2, the example
	m := made(t, join(t, put(2, 5, 9), put(2, 6, 9), take(2)))
	alone(t, m, 1, 1, 5)
	items(t, m, 2, 6)
	if len(m.Objects()) != 2 {
		t.Error("its node is given back")
	}
	m = made(t, join(t, put(0, 5, 2), put(0, 6, 2), put(0, 7, 2), take(0))) // it is full
	alone(t, m, 1, 1)
	items(t, m, 0, 5, 6)
	m = made(t, join(t, put(1, 5, 3), put(1, 6, 3), put(1, 7, 1))) // more than it may have
	alone(t, m, 1, 1)
	items(t, m, 1, 5, 6)
	m = made(t, join(t, put(3, 5, 1), take(3), put(3, 6, 1), take(3), take(3), put(3, 7, 1)))
	alone(t, m, 1, 5, 1, 6)
	items(t, m, 3)
	m = made(t, join(t, try(3, 44), put(3, 5, 1), put(2, 6, 1), try(3, 44), try(3, -1), try(2, 0)))
	alone(t, m, 44, 1, 1, 5, -1, 6)
	for q := range 4 {
		items(t, m, q)
	}
	if len(m.Objects()) != 1 {
		t.Error(m.Objects())
	}
}

func TestPass(t *testing.T) { // P32.2
	m := made(t, join(t, put(0, 5, 9), put(0, 6, 9), put(1, 7, 9), pass(0, 1, 2), pass(1, 3, 1), pass(0, 0, 1), pass(0, 1, 1)))
	alone(t, m, 1, 1, 1, 5, 7, 6)
	items(t, m, 0, 6)
	items(t, m, 1, 5)
	items(t, m, 3, 7)
	m = made(t, join(t, put(2, 5, 9), put(2, 6, 9), pass(2, 2, 2), pass(2, 2, 1))) // behind the Take one is left
	alone(t, m, 1, 1, 5)
	items(t, m, 2, 6, 5)
	m = made(t, join(t, put(2, 5, 9), pass(2, 2, 1), pass(2, 1, 1), pass(2, 1, 9)))
	alone(t, m, 1, 5, 5)
	items(t, m, 1, 5)
	items(t, m, 2)
	if len(m.Objects()) != 2 {
		t.Error(m.Objects())
	}
}

func object(n int, f ...api.Val) api.Object { return api.Object{Ref: ref(n), F: f} }

func TestItems(t *testing.T) { // P32.3
	nilv := value.Nil()
	base := func(first, last, n api.Val, l ...api.Object) []api.Object {
		return append([]api.Object{object(1, nilv, nilv, first, last, nilv, nilv, nilv, nilv, num(0), n, num(0), num(0)), object(1)}, l...)
	}
	a, b := object(20, ref(30), num(4)), object(30, nilv, num(3))
	freed := b
	freed.Head.State = api.Freed
	if l, e := fifo.Items(base(ref(20), ref(30), num(2), a, b, object(30)), root, 1); e != api.OK || !reflect.DeepEqual(l, []int{4, 3}) {
		t.Error(l, e)
	}
	if l, e := fifo.Items(base(nilv, nilv, num(0)), root, 1); e != api.OK || len(l) != 0 {
		t.Error(l, e)
	}
	good := base(ref(20), ref(30), num(2), a, b)
	for i, c := range []struct {
		l    []api.Object
		root api.Val
		q    int
	}{
		{good, root, -1}, {good, root, 4}, {good, nilv, 1}, {good, ref(2), 1}, {good, num(1<<20 + 1), 1}, {good, api.Val{}, 1}, {nil, root, 1}, {append([]api.Object{object(1, good[0].F[:11]...)}, good...), root, 1},
		{base(num(20), ref(30), num(2), a, b), root, 1}, {base(ref(20), num(30), num(2), a, b), root, 1}, {base(ref(20), ref(30), nilv, a, b), root, 1}, {base(api.Val{}, nilv, num(0)), root, 1}, {base(nilv, nilv, api.Val{}), root, 1},
		{base(ref(20), ref(30), num(1), a, b), root, 1}, {base(ref(20), ref(30), num(3), a, b), root, 1}, {base(ref(20), ref(20), num(2), a, b), root, 1}, {base(ref(20), nilv, num(2), a, b), root, 1}, {base(nilv, ref(20), num(0), a, b), root, 1}, {base(nilv, nilv, num(1)), root, 1}, {base(nilv, nilv, num(-1)), root, 1},
		{base(ref(20), ref(30), num(2), a), root, 1}, {base(ref(20), ref(30), num(2), a, freed), root, 1}, {base(ref(20), ref(30), num(2), a, object(30, nilv)), root, 1}, {base(ref(20), ref(30), num(2), a, object(30, nilv, num(3), num(3))), root, 1}, {base(ref(20), ref(30), num(2), a, object(30, num(0), num(3))), root, 1}, {base(ref(20), ref(30), num(2), a, object(30, nilv, nilv)), root, 1},
		{base(ref(20), ref(30), num(2), a, object(30, ref(20), num(3))), root, 1}, {base(ref(20), ref(20), num(1), object(20, ref(20), num(3))), root, 1},
	} {
		if l, e := fifo.Items(c.l, c.root, c.q); l != nil || e != api.ErrLib {
			t.Error(i, l, e)
		}
	}
}

// op is a piece, and what it does to queues.
type op struct{ kind, q, to, n, most int }

func some(r *rand.Rand) op {
	return op{r.Intn(4), r.Intn(2), r.Intn(2), r.Intn(100), 1 + r.Intn(3)}
}

func (o op) maker() maker {
	switch o.kind {
	case 0:
		return put(o.q, o.n, o.most)
	case 1:
		return take(o.q)
	case 2:
		return try(o.q, o.n)
	}
	return pass(o.q, o.to, o.most)
}

// do is its result, and true; false: it can't be done now.
func (o op) do(queues *[2][]int) (int, bool) {
	q := queues[o.q]
	switch {
	case o.kind == 0 && len(q) >= o.most, o.kind != 0 && o.kind != 2 && len(q) == 0:
		return 0, false
	case o.kind == 0:
		queues[o.q] = append(q, o.n)
		return 1, true
	case len(q) == 0:
		return o.n, true
	}
	if o.kind == 3 && (o.to != o.q && len(queues[o.to]) >= o.most || o.to == o.q && len(q)-1 >= o.most) {
		return 0, false
	}
	queues[o.q] = q[1:]
	if o.kind == 3 {
		queues[o.to] = append(slices.Clone(queues[o.to]), q[0])
	}
	return q[0], true
}

// P32.4: blocks of three threads in any order.
func TestFirstInFirstOut(t *testing.T) {
	for seed := range int64(200) {
		r := rand.New(rand.NewSource(seed))
		ops := make([][]op, 3)
		var progs [][]api.Instr
		for th := range ops {
			var makers []maker
			for range 1 + r.Intn(7) {
				o := some(r)
				ops[th] = append(ops[th], o)
				makers = append(makers, o.maker())
			}
			progs = append(progs, join(t, makers...))
		}
		m := made(t, progs...)
		var queues [2][]int
		want := make([][]int, 3)
		for range 200 {
			th := r.Intn(3)
			if k, _ := m.Next(th); k == api.NoEvent {
				continue
			}
			before := [2][]int{slices.Clone(queues[0]), slices.Clone(queues[1])}
			n, may := ops[th][len(want[th])].do(&queues)
			if !may {
				queues = before
			}
			if next(m, th) != may {
				t.Fatal(seed, ops[th][len(want[th])], before, may)
			}
			if may {
				want[th] = append(want[th], n)
			}
			for q := range queues {
				items(t, m, q, queues[q]...)
			}
		}
		m.Finish()
		for th := range want {
			if rep, _ := m.Report(th); !value.Same(rep.Emits, vals(want[th])) {
				t.Fatal(seed, th, rep, want[th])
			}
		}
	}
}

// P32.4: on the machine, whoever is picked: what goes through two queues comes out in order, none is lost, or there twice.
func TestMachine(t *testing.T) {
	for seed := range int64(40) {
		r := rand.New(rand.NewSource(seed))
		var a, b, c []maker
		for n := range 6 {
			a, b, c = append(a, put(0, 10+n, 2)), append(b, pass(0, 3, 1)), append(c, take(3))
		}
		progs := [][]api.Instr{join(t, a...), join(t, b...), join(t, c...)}
		conf := api.Conf{Words: 200, Orecs: 1 + r.Intn(16), Reads: 50, Undo: 50, Clock: 1000, Manager: api.Greedy}
		m, e := machine.New(conf, progs)
		if e != api.OK {
			t.Fatal(e)
		}
		for n := 0; !m.Over() && n < 60000; n++ {
			th := n % 3
			if n < 3000 {
				th = r.Intn(3)
			}
			m.Pick(th)
		}
		l := m.Events()
		if n, e := order.Judge(progs, l, m.Reports(), m.Undone()); n != len(l) || e != api.OK || !m.Over() {
			t.Fatal(seed, n, e, m.Over())
		}
		want := vals([]int{10, 11, 12, 13, 14, 15})
		if reps := m.Reports(); !value.Same(reps[1].Emits, want) || !value.Same(reps[2].Emits, want) || len(m.Undone()) != 1 {
			t.Fatal(seed, reps)
		}
	}
}
