package hash_test

import (
	"math"
	"math/rand"
	"reflect"
	"slices"
	"strings"
	"testing"

	"gantlet/api"
	"gantlet/asm"
	"gantlet/check"
	"gantlet/hash"
	"gantlet/machine"
	"gantlet/prog"
	"gantlet/value"
)

func num(n int) api.Val { return value.Number(n) }

func ref(n int) api.Val { v, _ := value.Of(1, n); return v }

// written is a program as the document writes it: registers by numbers, places behind @.
func written(t *testing.T, s string) []api.Instr {
	t.Helper()
	var p []api.Instr
	kinds := map[string]string{"const": "rn", "jump": "p", "jumpz": "rp", "new": "rnn", "get": "rrn", "set": "rnr"}
	for _, line := range strings.Split(s, "; ") {
		w := strings.Fields(line)
		kind, ok := kinds[w[0]]
		if !ok {
			kind = "rrr"
		}
		place := 0
		for i := range w[1:] {
			switch kind[i] {
			case 'r':
				w[i+1] = "r" + w[i+1]
			case 'p':
				for _, c := range w[i+1][1:] {
					place = 10*place + int(c-'0')
				}
				w[i+1] = "@x"
			}
		}
		l, _, e := asm.Parse(":x\n" + strings.Join(w, " ") + "\n")
		if e != api.OK {
			t.Fatal(line)
		}
		if l[0].Op == api.OJump {
			l[0].A = place
		} else if l[0].Op == api.OJumpZ {
			l[0].B = place
		}
		p = append(p, l[0])
	}
	return p
}

func TestBucket(t *testing.T) { // P31.1, the example
	for k, want := range map[int]int{13: 5, 0: 0, 7: 7, 8: 0, -1: 7, -8: 0, -9: 7, math.MaxInt: 7, math.MinInt: 0, 1 << 40: 0} {
		if hash.Bucket(k) != want {
			t.Error(k, hash.Bucket(k))
		}
	}
}

func TestPrograms(t *testing.T) { // P31.1, P31.2, P31.3
	for _, c := range []struct {
		got  func() ([]api.Instr, api.Errno)
		want string
	}{
		{func() ([]api.Instr, api.Errno) { return hash.Put(13, -4) }, "root 0; const 1 13; const 6 -4; begin; get 3 0 5; jumpz 3 @13; get 4 3 1; eq 5 4 1; jumpz 5 @11; set 3 2 6; jump @19; get 3 3 0; jump @5; new 2 3 1; set 2 1 1; set 2 2 6; get 3 0 5; set 2 0 3; set 0 5 2; end"},
		{func() ([]api.Instr, api.Errno) { return hash.Get(-1) }, "root 0; const 1 -1; const 7 0; const 6 0; begin; get 3 0 7; jumpz 3 @14; get 4 3 1; eq 7 4 1; jumpz 7 @12; get 6 3 2; jump @14; get 3 3 0; jump @6; end; emit 7; emit 6"},
		{func() ([]api.Instr, api.Errno) { return hash.Delete(10) }, "root 0; const 1 10; begin; get 3 0 2; jumpz 3 @21; get 4 3 1; eq 5 4 1; jumpz 5 @12; get 2 3 0; set 0 2 2; free 3; jump @21; move 6 3; get 3 6 0; jumpz 3 @21; get 4 3 1; eq 5 4 1; jumpz 5 @12; get 2 3 0; set 6 0 2; free 3; end"},
	} {
		p, e := c.got()
		if e != api.OK || !reflect.DeepEqual(p, written(t, c.want)) || check.Check(p) != api.OK {
			t.Error(c.want, p, e)
		}
		p[0] = api.Instr{}
		if q, _ := c.got(); q[0].Op != api.ORoot {
			t.Error("an answer is new memory")
		}
	}
	big := api.MaxConst
	for _, n := range []int{big, -big} {
		if p, e := hash.Put(n, n); e != api.OK || len(p) != 20 {
			t.Error(n, e)
		}
	}
	for _, n := range []int{big + 1, -big - 1, math.MinInt, math.MaxInt} {
		for i, f := range []func() ([]api.Instr, api.Errno){func() ([]api.Instr, api.Errno) { return hash.Put(n, 0) }, func() ([]api.Instr, api.Errno) { return hash.Put(0, n) }, func() ([]api.Instr, api.Errno) { return hash.Get(n) }, func() ([]api.Instr, api.Errno) { return hash.Delete(n) }} {
			if p, e := f(); p != nil || e != api.ErrLib {
				t.Error(i, n, e)
			}
		}
	}
}

func entry(n int, f ...api.Val) api.Object { return api.Object{Ref: ref(n), F: f} }

func TestPairs(t *testing.T) { // P31.4
	nilv := value.Nil()
	row := func(l ...api.Object) []api.Object {
		return append([]api.Object{entry(40, nilv), entry(1, nilv, ref(20), nilv, nilv, nilv, nilv, nilv, nilv, num(3)), entry(1)}, l...)
	}
	good := row(entry(20, ref(30), num(9), num(5)), entry(30, nilv, num(-7), num(6)), entry(30, nilv))
	if l, ok := hash.Pairs(good); !ok || !reflect.DeepEqual(l, []api.Pair{{Key: -7, Val: 6}, {Key: 9, Val: 5}}) {
		t.Error(l, ok)
	}
	empty := entry(1, nilv, nilv, nilv, nilv, nilv, nilv, nilv, nilv)
	if l, ok := hash.Pairs([]api.Object{empty}); !ok || len(l) != 0 {
		t.Error(l, ok)
	}
	lost := append([]api.Object{entry(50, nilv, num(9), num(5))}, row()...) // whoever is first is not meant
	freed := entry(20, nilv, num(9), num(5))
	freed.Head.State = api.Freed
	number := row()
	number[1].F[1] = num(20)
	zero := row()
	zero[1].F[1] = api.Val{}
	for i, l := range [][]api.Object{
		nil, {entry(2, empty.F...)}, {entry(1, empty.F[:7]...)}, {{Ref: num(1<<20 + 1), F: empty.F}}, row(), lost, number, zero, row(freed), row(entry(20, nilv, num(9))), row(entry(20, nilv, num(9), num(1), num(1))),
		row(entry(20, num(0), num(9), num(5))), row(entry(20, nilv, nilv, num(5))), row(entry(20, nilv, num(9), nilv)), row(entry(20, api.Val{}, num(9), num(5))),
		row(entry(20, nilv, num(8), num(5))), row(entry(20, ref(30), num(9), num(5)), entry(30, nilv, num(9), num(5))), row(entry(20, ref(30), num(9), num(5)), entry(30, nilv, num(10), num(5))), row(entry(20, ref(20), num(9), num(5))), row(entry(20, ref(99), num(9), num(5))),
	} {
		if l, ok := hash.Pairs(l); l != nil || ok {
			t.Error(i, l)
		}
	}
}

func conf() api.Conf {
	return api.Conf{Words: 4000, Orecs: 64, Reads: 500, Undo: 100, Clock: 1000, Manager: api.Greedy}
}

// thread is programs of keys, what they tell, and the table then.
type thread struct {
	parts [][]api.Instr
	want  []api.Val
	table map[int]int
}

// some are programs by chance, of these keys.
func some(t *testing.T, r *rand.Rand, keys []int) thread {
	x := thread{table: map[int]int{}}
	for range 3 + r.Intn(10) {
		k, v := keys[r.Intn(len(keys))], r.Intn(100)-50
		var p []api.Instr
		var e api.Errno
		switch r.Intn(4) {
		case 0, 1:
			p, e = hash.Put(k, v)
			x.table[k] = v
		case 2:
			p, e = hash.Get(k)
			was, there := x.table[k]
			if there {
				x.want = append(x.want, num(1), num(was))
			} else {
				x.want = append(x.want, num(0), num(0))
			}
		case 3:
			p, e = hash.Delete(k)
			delete(x.table, k)
		}
		if e != api.OK {
			t.Fatal(e)
		}
		x.parts = append(x.parts, p)
	}
	return x
}

// run drives threads, by chance and then in turn, and looks at what they told, and at the table.
func run(t *testing.T, r *rand.Rand, threads ...thread) {
	t.Helper()
	var progs [][]api.Instr
	var want []api.Pair
	for _, x := range threads {
		p, e := prog.Link(x.parts...)
		if e != api.OK {
			t.Fatal(e)
		}
		progs = append(progs, p)
		for k, v := range x.table {
			want = append(want, api.Pair{Key: k, Val: v})
		}
	}
	c := conf()
	c.Orecs = 1 + r.Intn(64)
	m, e := machine.New(c, progs)
	if e != api.OK {
		t.Fatal(e)
	}
	for range 1500 {
		m.Pick(r.Intn(len(progs)))
	}
	for n := 0; !m.Over() && n < 300000; n++ {
		m.Pick(n % len(progs))
	}
	for th, rep := range m.Reports() {
		if rep.Status != api.Halted || !value.Same(rep.Emits, threads[th].want) {
			t.Fatal(th, rep, threads[th].want)
		}
	}
	slices.SortFunc(want, func(a, b api.Pair) int { return a.Key - b.Key })
	if l, ok := hash.Pairs(m.Objects()); !ok || !slices.Equal(l, want) {
		t.Fatal(l, ok, want)
	}
}

func TestAlone(t *testing.T) { // P31.5
	for seed := range int64(60) {
		r := rand.New(rand.NewSource(seed))
		run(t, r, some(t, r, []int{1, 9, 17, -7, 4, -1, 7, 1 << 40}))
	}
}

func TestMany(t *testing.T) { // P31.6
	for seed := range int64(60) {
		r := rand.New(rand.NewSource(seed))
		run(t, r, some(t, r, []int{1, 9, 2, 16}), some(t, r, []int{17, 25, 10, 0}), some(t, r, []int{33, -7, 18, 8}))
	}
}
