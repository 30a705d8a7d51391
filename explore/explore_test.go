package explore_test

import (
	"math"
	"reflect"
	"strings"
	"testing"

	"gantlet/api"
	"gantlet/asm"
	"gantlet/explore"
	"gantlet/machine"
	"gantlet/value"
)

func num(n int) api.Val { return value.Number(n) }

func programs(t *testing.T, l ...string) [][]api.Instr {
	t.Helper()
	var progs [][]api.Instr
	for _, s := range l {
		p, line, e := asm.Parse(strings.ReplaceAll(s, "; ", "\n") + "\n")
		if e != api.OK {
			t.Fatal(s, line, e)
		}
		progs = append(progs, p)
	}
	return progs
}

func conf() api.Conf {
	return api.Conf{Words: 40, Orecs: 4, Reads: 5, Undo: 5, Clock: 100, Manager: api.Greedy}
}

func TestErrors(t *testing.T) {
	halt := programs(t, "halt", "halt")
	bad := conf()
	bad.Words = 3
	loops := programs(t, ":a; jump @a", ":a; jump @a")
	for _, c := range []struct {
		c     api.Conf
		progs [][]api.Instr
		depth int
		e     api.Errno
	}{
		{bad, halt, -1, api.ErrMem}, {conf(), nil, 99, api.ErrMachine}, {conf(), [][]api.Instr{nil}, 1, api.ErrCheck}, {conf(), halt, -1, api.ErrExplore}, {conf(), halt, 33, api.ErrExplore}, {conf(), loops, math.MaxInt, api.ErrExplore},
		{conf(), loops, 9, api.ErrMany}, {conf(), loops, 32, api.ErrMany}, {conf(), loops, 8, api.OK}, {conf(), halt, 32, api.OK}, {conf(), halt, 0, api.OK},
	} {
		rows, e1 := explore.Rows(c.c, c.progs, c.depth)
		n, e2 := explore.Count(c.c, c.progs, c.depth)
		l, is, e3 := explore.Bad(c.c, c.progs, c.depth)
		o, e4 := explore.Outcomes(c.c, c.progs, c.depth)
		least, e5 := explore.Least(c.c, c.progs, c.depth)
		for i, e := range []api.Errno{e1, e2, e3, e4, e5} {
			if e != c.e {
				t.Error(c, i, e)
			}
		}
		if c.e != api.OK && (rows != nil || n != 0 || o != nil || least != 0) || l != nil || is {
			t.Error(c, rows, n, l, is, o, least)
		}
	}
}

func TestRows(t *testing.T) { // P29.1, P29.3, the example
	halt := programs(t, "halt", "halt")
	for _, c := range []struct {
		progs [][]api.Instr
		depth int
		rows  [][]int
		least int
	}{
		{halt, 5, [][]int{{0, 1}, {1, 0}}, 2}, {halt, 2, [][]int{{0, 1}, {1, 0}}, 2}, {halt, 1, [][]int{{0}, {1}}, -1}, {halt, 0, [][]int{nil}, -1},
		{programs(t, "nil r0; halt", "halt"), 9, [][]int{{0, 0, 1}, {0, 1, 0}, {1, 0, 0}}, 3}, {programs(t, "nil r0; halt", "halt"), 2, [][]int{{0, 0}, {0, 1}, {1, 0}}, -1},
		{programs(t, "nil r0; add r0 r0 r0; halt"), 9, [][]int{{0, 0}}, 2}, {programs(t, ":a; jump @a"), 3, [][]int{{0, 0, 0}}, -1},
		{programs(t, "halt", "halt", "halt"), 9, [][]int{{0, 1, 2}, {0, 2, 1}, {1, 0, 2}, {1, 2, 0}, {2, 0, 1}, {2, 1, 0}}, 3},
	} {
		rows, e := explore.Rows(conf(), c.progs, c.depth)
		if e != api.OK || len(rows) != len(c.rows) {
			t.Fatal(c, rows, e)
		}
		for i, r := range rows {
			if len(r)+len(c.rows[i]) > 0 && !reflect.DeepEqual(r, c.rows[i]) {
				t.Error(c, rows)
			}
		}
		if n, e := explore.Count(conf(), c.progs, c.depth); n != len(rows) || e != api.OK {
			t.Error(c, n, e)
		}
		if n, e := explore.Least(conf(), c.progs, c.depth); n != c.least || e != api.OK {
			t.Error(c, n, e)
		}
	}
	small := conf()
	small.Words = 19 // one object alone has room: the first row is not the shortest one
	if n, e := explore.Least(small, programs(t, "new r0 1 0; nil r1; nil r1", "new r0 1 0"), 9); n != 3 || e != api.OK {
		t.Error(n, e)
	}
	if n, e := explore.Least(small, programs(t, "new r0 1 0", "new r0 1 0; nil r1; nil r1"), 9); n != 3 || e != api.OK {
		t.Error(n, e)
	}
	retry := programs(t, "begin; retry; end", "halt") // a blocked thread may be picked
	if rows, e := explore.Rows(conf(), retry, 6); e != api.OK || len(rows) != 7 || len(rows[0]) != 6 {
		t.Error(len(rows), e)
	}
}

func TestOutcomes(t *testing.T) { // P29.3
	for _, c := range []struct {
		progs [][]api.Instr
		depth int
		want  [][]api.Val
	}{
		{programs(t, "emit r0", "const r1 3; emit r1"), 9, [][]api.Val{{num(0), num(3)}}}, {programs(t, "emit r0", "emit r0"), 3, nil}, {programs(t, "halt"), 1, [][]api.Val{nil}},
		{programs(t, "root r0; get r1 r0 8; emit r1", "root r0; set r0 8 r0"), 2, nil},
		{programs(t, "new r0 1 0; emit r0", "new r0 1 0; emit r0"), 6, [][]api.Val{{{K: api.Ref, N: 1<<20 + 18}, {K: api.Ref, N: 1<<20 + 20}}, {{K: api.Ref, N: 1<<20 + 20}, {K: api.Ref, N: 1<<20 + 18}}}},
	} {
		o, e := explore.Outcomes(conf(), c.progs, c.depth)
		if e != api.OK || len(o) != len(c.want) {
			t.Fatal(c, o, e)
		}
		for i := range o {
			if !value.Same(o[i], c.want[i]) {
				t.Error(c, o)
			}
		}
	}
}

func TestNever(t *testing.T) { // P29.2, P29.4
	for _, c := range []struct {
		progs [][]api.Instr
		depth int
	}{
		{programs(t, "root r0; set r0 8 r1", "root r0; get r1 r0 8; emit r1"), 8}, {programs(t, "begin; end", "begin; end"), 8}, {programs(t, "root r0; begin; set r0 8 r1; end", "begin; root r0; get r1 r0 8; end"), 8},
		{programs(t, "root r0; new r1 1 0; set r0 0 r1", "root r0; get r2 r0 0; get r3 r2 0"), 8}, {programs(t, "begin; new r0 1 0; free r0; end", "new r1 1 0; free r1"), 8}, {programs(t, "begin; retry; else; end", "free r0"), 7},
		{programs(t, "new r0 2 1; free r0", "begin; new r0 2 1; end", "emit r0"), 5},
	} {
		if l, is, e := explore.Bad(conf(), c.progs, c.depth); l != nil || is || e != api.OK {
			t.Error(c, l, is, e)
		}
	}
}

func TestTwo(t *testing.T) { // P29.5
	for _, n := range []string{"1", "-7", "1099511627776"} {
		add := "root r0; const r1 " + n + "; begin; get r2 r0 8; add r3 r2 r1; set r0 8 r3; end; emit r2; halt"
		progs := programs(t, add, add)
		want := programs(t, "const r0 "+n)[0][0].B
		rows, e := explore.Rows(conf(), progs, 8)
		if e != api.OK || len(rows) != 256 {
			t.Fatal(len(rows), e)
		}
		for _, row := range rows {
			m, _ := machine.New(conf(), progs)
			m.Run([]int{0, 0, 1, 1, 0, 0, 1, 1}) // both are within their blocks
			m.Run(row)
			for i := 0; !m.Over() && i < 1000; i++ {
				m.Pick(i % 2)
			}
			a, b := m.Reports()[0].Emits, m.Reports()[1].Emits
			if !m.Over() || len(a) != 1 || len(b) != 1 || a[0].N*b[0].N != 0 || a[0].N+b[0].N != want {
				t.Fatal(row, a, b)
			}
		}
	}
}

func choose(n, k int) int {
	if k == 0 || k == n {
		return 1
	}
	return choose(n-1, k-1) + choose(n-1, k)
}

func TestAmongOneAnother(t *testing.T) { // P29.6
	for a := range 5 {
		for b := range 5 {
			if a+b == 0 || a*b == 0 {
				continue
			}
			p := func(n int) string { return strings.TrimSuffix(strings.Repeat("const r1 2; ", n), "; ") }
			want := choose(a+b+2, a+1)
			n, e := explore.Count(conf(), programs(t, p(a), p(b)), a+b+2)
			if want > 256 && e != api.ErrMany || want <= 256 && (n != want || e != api.OK) {
				t.Error(a, b, n, want, e)
			}
		}
	}
	three := programs(t, "nil r0; nil r0", "nil r1; nil r1") // depth beside
	if n, e := explore.Count(conf(), three, 32); n != 20 || e != api.OK {
		t.Error(n, e)
	}
}
