package tree_test

import (
	"math"
	"math/rand"
	"reflect"
	"slices"
	"strings"
	"testing"

	"gantlet/api"
	"gantlet/asm"
	"gantlet/check"
	"gantlet/machine"
	"gantlet/prog"
	"gantlet/tree"
	"gantlet/value"
)

func num(n int) api.Val { return value.Number(n) }

func ref(n int) api.Val { v, _ := value.Of(1, n); return v }

// written is a program as the document writes it: registers by numbers, places behind @.
func written(t *testing.T, s string) []api.Instr {
	t.Helper()
	var p []api.Instr
	kinds := map[string]string{"const": "rn", "jump": "p", "jumpz": "rp", "new": "rnn", "get": "rrn", "set": "rnr"}
	for _, line := range strings.Split(s, "; ") {
		w := strings.Fields(line)
		kind, ok := kinds[w[0]]
		if !ok {
			kind = "rrr"
		}
		place := 0
		for i := range w[1:] {
			switch kind[i] {
			case 'r':
				w[i+1] = "r" + w[i+1]
			case 'p':
				for _, c := range w[i+1][1:] {
					place = 10*place + int(c-'0')
				}
				w[i+1] = "@x"
			}
		}
		l, _, e := asm.Parse(":x\n" + strings.Join(w, " ") + "\n")
		if e != api.OK {
			t.Fatal(line)
		}
		if l[0].Op == api.OJump {
			l[0].A = place
		} else if l[0].Op == api.OJumpZ {
			l[0].B = place
		}
		p = append(p, l[0])
	}
	return p
}

func TestPrograms(t *testing.T) { // P25.1, P25.2, P25.3
	for _, c := range []struct {
		got  func() ([]api.Instr, api.Errno)
		want string
	}{
		{func() ([]api.Instr, api.Errno) { return tree.Insert(3, -77) }, "root 0; const 1 -77; begin; get 2 0 3; jumpz 2 @27; get 3 2 2; eq 4 1 3; jumpz 4 @9; jump @30; less 4 1 3; jumpz 4 @19; get 5 2 0; jumpz 5 @15; move 2 5; jump @5; new 6 3 3; set 6 2 1; set 2 0 6; jump @30; get 5 2 1; jumpz 5 @23; move 2 5; jump @5; new 6 3 3; set 6 2 1; set 2 1 6; jump @30; new 6 3 3; set 6 2 1; set 0 3 6; end"},
		{func() ([]api.Instr, api.Errno) { return tree.Find(6, 99) }, "root 0; const 1 99; const 7 0; begin; get 2 0 6; jumpz 2 @15; get 3 2 2; eq 7 1 3; jumpz 7 @10; jump @15; less 4 1 3; get 5 2 1; jumpz 4 @17; get 5 2 0; jump @17; jump @19; jump @19; move 2 5; jump @5; end; emit 7"},
		{func() ([]api.Instr, api.Errno) { return tree.Least(5) }, "root 0; begin; get 2 0 5; jumpz 2 @8; get 3 2 0; jumpz 3 @8; move 2 3; jump @4; end; jumpz 2 @12; get 7 2 2; emit 7"},
		{func() ([]api.Instr, api.Errno) { return tree.Move(2, 7) }, "root 0; nil 3; begin; get 2 0 2; set 0 2 3; set 0 7 2; end"},
	} {
		p, e := c.got()
		if want := written(t, c.want); e != api.OK || !reflect.DeepEqual(p, want) || check.Check(p) != api.OK {
			t.Error(c.want, p, e)
		}
		p[0] = api.Instr{}
		if q, _ := c.got(); q[0].Op != api.ORoot {
			t.Error("an answer is new memory")
		}
	}
	for _, k := range []int{api.MaxConst, -api.MaxConst} {
		if p, e := tree.Insert(0, k); e != api.OK || p[1].B != k {
			t.Error(k, e)
		}
		if p, e := tree.Find(7, k); e != api.OK || p[1].B != k {
			t.Error(k, e)
		}
	}
}

func TestWrongArguments(t *testing.T) {
	for _, g := range []int{-1, 8, math.MaxInt} {
		for i, f := range []func() ([]api.Instr, api.Errno){
			func() ([]api.Instr, api.Errno) { return tree.Insert(g, 0) }, func() ([]api.Instr, api.Errno) { return tree.Find(g, 0) }, func() ([]api.Instr, api.Errno) { return tree.Least(g) },
			func() ([]api.Instr, api.Errno) { return tree.Move(g, 0) }, func() ([]api.Instr, api.Errno) { return tree.Move(0, g) },
		} {
			if p, e := f(); p != nil || e != api.ErrLib {
				t.Error(i, g, e)
			}
		}
	}
	for _, k := range []int{api.MaxConst + 1, -api.MaxConst - 1, math.MinInt} {
		if p, e := tree.Insert(0, k); p != nil || e != api.ErrLib {
			t.Error(k, e)
		}
		if p, e := tree.Find(0, k); p != nil || e != api.ErrLib {
			t.Error(k, e)
		}
	}
}

func node(n int, left, right, key api.Val) api.Object {
	return api.Object{Ref: ref(n), F: []api.Val{left, right, key}}
}

func TestPlace(t *testing.T) { // P25.4
	l := []api.Object{node(5, num(1), num(2), num(3)), {Ref: ref(1), F: []api.Val{num(4), ref(9), {}}}, {Ref: ref(1), F: make([]api.Val, 16)}}
	for _, c := range []struct {
		g    int
		v    api.Val
		want bool
	}{{0, num(4), true}, {1, ref(9), true}, {2, api.Val{}, true}, {3, api.Val{}, false}, {-1, api.Val{}, false}, {8, api.Val{}, false}} {
		if v, ok := tree.Place(l, c.g); v != c.v || ok != c.want {
			t.Error(c, v, ok)
		}
	}
	if v, ok := tree.Place(l[2:], 8); v != (api.Val{}) || ok {
		t.Error("no place", v)
	}
	if v, ok := tree.Place(l[:1], 0); v != (api.Val{}) || ok {
		t.Error("no root", v)
	}
}

func TestKeys(t *testing.T) { // P25.4
	nilv := value.Nil()
	good := []api.Object{node(5, ref(6), ref(7), num(10)), node(6, nilv, ref(8), num(3)), node(7, nilv, nilv, num(11)), node(8, nilv, nilv, num(9)), node(8, nilv, nilv, num(99))}
	good[1].Head.State, good[2].Head.Mask = api.Freed, 7 // not looked at
	for _, c := range []struct {
		l    []api.Object
		v    api.Val
		keys []int
		want bool
	}{
		{good, ref(5), []int{3, 9, 10, 11}, true}, {good, ref(6), []int{3, 9}, true}, {good, nilv, nil, true}, {nil, nilv, nil, true},
		{good, num(1), nil, false}, {good, api.Val{}, nil, false}, {good, ref(99), nil, false}, {nil, ref(5), nil, false},
		{[]api.Object{node(5, num(0), nilv, num(1))}, ref(5), nil, false}, {[]api.Object{node(5, nilv, api.Val{}, num(1))}, ref(5), nil, false}, {[]api.Object{node(5, nilv, nilv, nilv)}, ref(5), nil, false},
		{[]api.Object{{Ref: ref(5), F: []api.Val{nilv, nilv}}}, ref(5), nil, false}, {[]api.Object{{Ref: ref(5), F: []api.Val{nilv, nilv, num(1), num(2)}}}, ref(5), nil, false},
		{[]api.Object{node(5, ref(6), nilv, num(1)), node(6, nilv, nilv, num(2))}, ref(5), nil, false}, {[]api.Object{node(5, nilv, ref(6), num(1)), node(6, nilv, nilv, num(1))}, ref(5), nil, false},
		{[]api.Object{node(5, ref(6), nilv, num(5)), node(6, nilv, ref(7), num(3)), node(7, nilv, nilv, num(6))}, ref(5), nil, false}, // below its parent's key, not its grandparent's
		{[]api.Object{node(5, ref(6), ref(6), num(5)), node(6, nilv, nilv, num(3))}, ref(5), nil, false}, {[]api.Object{node(5, ref(5), nilv, num(5))}, ref(5), nil, false}, {[]api.Object{node(5, nilv, ref(5), num(5))}, ref(5), nil, false}, {[]api.Object{node(5, ref(6), nilv, num(5))}, ref(5), nil, false},
		{[]api.Object{{Ref: num(7), F: []api.Val{nilv, nilv, num(1)}}}, num(7), nil, false},
	} {
		if keys, ok := tree.Keys(c.l, c.v); ok != c.want || !slices.Equal(keys, c.keys) {
			t.Error(c, keys, ok)
		}
	}
	for _, n := range []int{4096, 4097} {
		var chain []api.Object
		for i := range n {
			next := ref(i + 11)
			if i == n-1 {
				next = nilv
			}
			chain = append(chain, node(i+10, nilv, next, num(i)))
		}
		if keys, ok := tree.Keys(chain, ref(10)); ok != (n == 4096) || ok && len(keys) != n {
			t.Error(n, len(keys), ok)
		}
	}
}

func conf() api.Conf {
	return api.Conf{Words: 4000, Orecs: 64, Reads: 500, Undo: 100, Clock: 1000, Manager: api.Greedy}
}

// run links programs for each thread, and drives a machine: by chance, then in turn.
func run(t *testing.T, r *rand.Rand, c api.Conf, threads ...[][]api.Instr) *machine.Machine {
	t.Helper()
	var progs [][]api.Instr
	for _, parts := range threads {
		p, e := prog.Link(parts...)
		if e != api.OK {
			t.Fatal(e)
		}
		progs = append(progs, p)
	}
	m, e := machine.New(c, progs)
	if e != api.OK {
		t.Fatal(e)
	}
	for range 1500 {
		m.Pick(r.Intn(len(progs)))
	}
	for n := 0; !m.Over() && n < 500000; n++ {
		m.Pick(n % len(progs))
	}
	for _, rep := range m.Reports() {
		if rep.Status != api.Halted {
			t.Fatal(rep)
		}
	}
	return m
}

func keysAt(t *testing.T, m *machine.Machine, g int) []int {
	t.Helper()
	v, ok := tree.Place(m.Objects(), g)
	keys, is := tree.Keys(m.Objects(), v)
	if !ok || !is {
		t.Fatal("no tree", v)
	}
	return keys
}

func part(t *testing.T) func(p []api.Instr, e api.Errno) []api.Instr {
	return func(p []api.Instr, e api.Errno) []api.Instr {
		t.Helper()
		if e != api.OK {
			t.Fatal(e)
		}
		return p
	}
}

func TestAlone(t *testing.T) { // P25.5, the example
	ok := part(t)
	r := rand.New(rand.NewSource(1))
	m := run(t, r, conf(), [][]api.Instr{ok(tree.Insert(0, 5))})
	if l := keysAt(t, m, 0); !slices.Equal(l, []int{5}) {
		t.Error(l)
	}
	for range 30 {
		var parts [][]api.Instr
		var want []api.Val
		set := map[int]int{}
		for range 12 {
			k := r.Intn(9)
			switch r.Intn(4) {
			case 0, 1:
				parts = append(parts, ok(tree.Insert(2, k)))
				set[k] = 1
			case 2:
				parts = append(parts, ok(tree.Find(2, k)))
				want = append(want, num(set[k]))
			case 3:
				parts = append(parts, ok(tree.Least(2)))
				if l := sorted(set); len(l) > 0 {
					want = append(want, num(l[0]))
				}
			}
		}
		parts = append(parts, ok(tree.Move(2, 4)), ok(tree.Least(2)))
		m := run(t, r, conf(), parts)
		if e := m.Reports()[0].Emits; !value.Same(e, want) {
			t.Fatal(e, want)
		}
		if l := keysAt(t, m, 4); !slices.Equal(l, sorted(set)) || len(keysAt(t, m, 2)) != 0 {
			t.Fatal(l, set)
		}
	}
}

func sorted(set map[int]int) []int {
	var l []int
	for k := range set {
		l = append(l, k)
	}
	slices.Sort(l)
	return l
}

func TestMany(t *testing.T) { // P25.6
	ok := part(t)
	for seed := range int64(25) {
		r := rand.New(rand.NewSource(seed))
		set := map[int]int{}
		threads := make([][][]api.Instr, 4)
		for th := range threads {
			for range 1 + r.Intn(8) {
				k := r.Intn(20)
				set[k] = 1
				threads[th] = append(threads[th], ok(tree.Insert(1, k)))
			}
		}
		c := conf()
		c.Orecs = 1 + r.Intn(64)
		if l := keysAt(t, run(t, r, c, threads...), 1); !slices.Equal(l, sorted(set)) {
			t.Fatal(seed, l, set)
		}
	}
}
