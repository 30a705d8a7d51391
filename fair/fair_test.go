package fair_test

import (
	"math"
	"math/rand"
	"slices"
	"strings"
	"testing"

	"gantlet/api"
	"gantlet/asm"
	"gantlet/fair"
	"gantlet/machine"
)

func program(t *testing.T, s string) []api.Instr {
	t.Helper()
	p, line, e := asm.Parse(strings.ReplaceAll(s, "; ", "\n") + "\n")
	if e != api.OK {
		t.Fatal(s, line, e)
	}
	return p
}

func conf() api.Conf {
	return api.Conf{Words: 200, Orecs: 8, Reads: 20, Undo: 20, Clock: 1000, Manager: api.Greedy}
}

func TestRounds(t *testing.T) { // P27.1, P27.4, the example
	if l := fair.Rounds(2, 2); !slices.Equal(l, []int{0, 1, 0, 1}) {
		t.Error(l)
	}
	if l := fair.Rounds(3, 1); !slices.Equal(l, []int{0, 1, 2}) {
		t.Error(l)
	}
	if l := fair.Rounds(1, 3); !slices.Equal(l, []int{0, 0, 0}) {
		t.Error(l)
	}
	if l := fair.Rounds(64, 65536); len(l) != 64*65536 || l[len(l)-1] != 63 || l[64] != 0 {
		t.Error(len(l))
	}
	for _, c := range [][2]int{{0, 1}, {65, 1}, {-1, 1}, {2, 0}, {2, -1}, {2, 65537}, {math.MaxInt, math.MaxInt}} {
		if l := fair.Rounds(c[0], c[1]); len(l) != 0 {
			t.Error(c, len(l))
		}
	}
	for threads := 1; threads <= 64; threads++ {
		l := fair.Rounds(threads, 3)
		if !fair.Is(l, threads, threads) || threads > 1 && fair.Is(l, threads, threads-1) {
			t.Error(threads)
		}
	}
}

// slow is Is, as the document says it.
func slow(picks []int, threads, k int) bool {
	for from := 0; from+k <= len(picks); from++ {
		for th := range threads {
			if !slices.Contains(picks[from:from+k], th) {
				return false
			}
		}
	}
	return true
}

func TestIs(t *testing.T) { // P27.1
	for _, c := range []struct {
		picks      []int
		threads, k int
		want       bool
	}{
		{nil, 0, 1, false}, {nil, 65, 1, false}, {nil, 1, 0, false}, {nil, 1, -5, false}, {nil, 1, 1, true}, {[]int{5, 7}, 2, 3, true}, {[]int{5, 7}, 2, 2, false}, {[]int{0, 1}, 2, 2, true}, {[]int{0, 9, -1, 1, 0}, 2, 4, true}, {[]int{0, 9, -1, 1, 1}, 2, 4, false}, {[]int{0, 9, -1, 1, 9}, 2, 4, false}, {[]int{0, 0}, 2, math.MaxInt, true}, {[]int{0, 0, 0}, 1, 1, true}, {[]int{0, 0, 1}, 1, 1, false},
	} {
		if fair.Is(c.picks, c.threads, c.k) != c.want {
			t.Error(c)
		}
	}
	r := rand.New(rand.NewSource(1))
	yes := 0
	for range 5000 {
		picks := make([]int, r.Intn(20))
		for i := range picks {
			picks[i] = r.Intn(4) - r.Intn(2)
		}
		threads, k := 1+r.Intn(3), 1+r.Intn(12)
		want := slow(picks, threads, k)
		if fair.Is(picks, threads, k) != want {
			t.Fatal(picks, threads, k)
		}
		if want {
			yes++
		}
	}
	if yes < 500 {
		t.Error(yes)
	}
}

func TestEndsUnitsBound(t *testing.T) { // P27.2
	for _, c := range []struct {
		p     string
		ends  bool
		units int
	}{
		{"halt", true, 0}, {"const r0 1; jump @a; :a; halt", true, 0}, {":a; jump @a", false, 0}, {":a; halt; jump @a", false, 0}, {"jumpz r0 @a; :a", true, 0}, {":a; jumpz r0 @a", false, 0},
		{"new r0 1 0; get r1 r0 0; set r0 0 r1; free r0; begin; get r0 r0 0; begin; end; end; begin; new r0 1 0; end; root r1", true, 6},
		{"begin; retry; end; get r0 r0 0", false, 2}, {"begin; get r0 r0 0; else; free r0; end", true, 1}, {"begin", false, 0}, {"get r0 r0 0; end", false, 0},
	} {
		p := program(t, c.p)
		if fair.Ends(p) != c.ends || fair.Units(p) != c.units {
			t.Error(c, fair.Ends(p), fair.Units(p))
		}
	}
	if fair.Ends(nil) || fair.Units(nil) != 0 {
		t.Error("a program that may not be")
	}
	halt, long := program(t, "halt"), program(t, "begin; end; root r0; get r1 r0 0")
	many := make([][]api.Instr, 65)
	for i := range many {
		many[i] = halt
	}
	for _, c := range []struct {
		l [][]api.Instr
		n int
		e api.Errno
	}{
		{nil, 0, api.ErrFair}, {many, 0, api.ErrFair}, {many[:64], 64 * 64 * 404, api.OK}, {[][]api.Instr{halt}, 404, api.OK}, {[][]api.Instr{halt, long}, 2 * (2 + 2) * (64 + 400), api.OK}, {[][]api.Instr{long, long, halt}, 3 * (4 + 3) * 464, api.OK},
		{[][]api.Instr{halt, nil}, 0, api.ErrFair}, {[][]api.Instr{program(t, ":a; jump @a")}, 0, api.ErrFair}, {[][]api.Instr{program(t, "begin; retry; end")}, 0, api.ErrFair},
	} {
		if n, e := fair.Bound(c.l); n != c.n || e != c.e {
			t.Error(len(c.l), n, e)
		}
	}
}

func TestDrive(t *testing.T) { // P27.3
	made := func(l ...string) *machine.Machine {
		var progs [][]api.Instr
		for _, s := range l {
			progs = append(progs, program(t, s))
		}
		m, e := machine.New(conf(), progs)
		if e != api.OK {
			t.Fatal(e)
		}
		return m
	}
	m := made("nil r0; halt", "halt", "nil r0; nil r0; halt")
	if n := fair.Drive(m, 3, 4); n != 4 || m.Over() {
		t.Error(n)
	}
	for i, s := range m.Log() {
		if s.Thread != i%3 {
			t.Error(i, s)
		}
	}
	if n := fair.Drive(m, 3, 100); n != 6 || !m.Over() || m.Steps() != 10 { // each call begins with thread 0
		t.Error(n, m.Steps())
	}
	if n := fair.Drive(m, 3, 100); n != 0 {
		t.Error(n)
	}
	for _, threads := range []int{-1, 0, 65} {
		if n := fair.Drive(made("halt"), threads, 5); n != 0 {
			t.Error(threads, n)
		}
	}
	if fair.Drive(nil, 1, 5) != 0 || fair.Drive(made("halt"), 1, 0) != 0 || fair.Drive(made("halt"), 1, -3) != 0 {
		t.Error("no picks")
	}
	m = made("halt", "halt")
	if n := fair.Drive(m, 1, 50); n != 50 || m.Over() {
		t.Error("only these threads", n)
	}
}

// Each pick counts, also one that does no step.
func TestDriveCountsPicks(t *testing.T) { // P27.3
	made := func(n int, s string) *machine.Machine {
		var progs [][]api.Instr
		for range n {
			progs = append(progs, program(t, s))
		}
		m, e := machine.New(conf(), progs)
		if e != api.OK {
			t.Fatal(e)
		}
		return m
	}
	const steps = "nil r0; nil r0; nil r0; halt"
	for _, c := range []struct{ has, threads, most, picks, steps int }{
		{1, 2, 1, 1, 1}, {1, 2, 2, 2, 1}, {1, 2, 3, 3, 2}, {1, 3, 7, 7, 3}, {2, 5, 9, 9, 4},
		{1, 2, 7, 7, 4}, {1, 2, 8, 7, 4}, {1, 2, math.MaxInt, 7, 4}, // it is over behind the seventh one
		{1, 64, math.MaxInt, 3*64 + 1, 4}, {2, 3, math.MaxInt, 11, 8}, {2, 2, math.MaxInt, 8, 8},
	} {
		m := made(c.has, steps)
		if n := fair.Drive(m, c.threads, c.most); n != c.picks || m.Steps() != c.steps {
			t.Error(c, n, m.Steps())
		}
		for i, s := range m.Log() {
			if s.Thread != i%c.has {
				t.Error(c, i, s)
			}
		}
	}
	// Picks that can do no step any more are picks all the same, however many.
	for _, most := range []int{5, api.MaxSteps + 9, math.MaxInt} {
		m := made(1, ":a; jump @a")
		if n := fair.Drive(m, 1, most); n != most || m.Steps() != min(most, api.MaxSteps) {
			t.Error(most, n, m.Steps())
		}
	}
	m := made(1, ":a; jump @a")
	if n := fair.Drive(m, 3, 3*api.MaxSteps+1); n != 3*api.MaxSteps+1 || m.Steps() != api.MaxSteps {
		t.Error(n, m.Steps())
	}
	for _, most := range []int{1, 3, 7, math.MaxInt} {
		if n := fair.Drive(m, 2, most); n != most || m.Steps() != api.MaxSteps {
			t.Error(most, n)
		}
		if n := fair.Drive(&machine.Machine{}, 2, most); n != most { // it is never over
			t.Error(most, n)
		}
	}
	for _, most := range []int{0, -1, math.MinInt} {
		if n := fair.Drive(m, 2, most); n != 0 {
			t.Error(most, n)
		}
		if n := fair.Drive(&machine.Machine{}, 2, most); n != 0 {
			t.Error(most, n)
		}
	}
}

// plain is a program by chance that is plain to end, of at most 24 instructions.
func plain(r *rand.Rand) string {
	l := []string{"root r0", "const r2 1"}
	depth, other := 0, []int{}
	for len(l)+depth < 23 && r.Intn(30) > 0 {
		switch k := r.Intn(14); {
		case k == 0 && depth < 4 && len(l)+depth < 21:
			l, depth, other = append(l, "begin"), depth+1, append(other, 0)
		case k == 1 && depth > 0:
			l, depth, other = append(l, "end"), depth-1, other[:depth-1]
		case k == 2 && depth > 0 && other[depth-1] == 0:
			l, other[depth-1] = append(l, "else"), 1
		case k < 6:
			l = append(l, []string{"get r3 r0 8", "get r2 r0 9", "get r5 r0 1"}[r.Intn(3)])
		case k < 10:
			l = append(l, []string{"set r0 8 r2", "set r0 9 r2", "set r0 1 r4", "set r0 2 r5"}[r.Intn(4)])
		case k == 10:
			l = append(l, "new r4 2 1")
		case k == 11:
			l = append(l, "free r5")
		default:
			l = append(l, "add r2 r2 r2")
		}
	}
	for range depth {
		l = append(l, "end")
	}
	return strings.Join(l, "; ")
}

// P27.5, and P5 of the whole.
func TestAllEnd(t *testing.T) {
	for seed := range int64(1500) {
		r := rand.New(rand.NewSource(seed))
		var progs [][]api.Instr
		for range 1 + r.Intn(3) {
			p := program(t, plain(r))
			if len(p) > 24 || !fair.Ends(p) {
				t.Fatal(len(p))
			}
			progs = append(progs, p)
		}
		c := conf()
		c.Orecs = 1 + r.Intn(8)
		m, e := machine.New(c, progs)
		if e != api.OK {
			t.Fatal(e)
		}
		for range r.Intn(300) {
			m.Pick(r.Intn(len(progs)))
		}
		bound, e := fair.Bound(progs)
		if n := fair.Drive(m, len(progs), bound); e != api.OK || n > bound || !m.Over() {
			t.Fatal(seed, n, bound, e, m.Reports())
		}
		for _, rep := range m.Reports() {
			if rep.Status != api.Halted && rep.Status != api.Failed {
				t.Fatal(rep)
			}
		}
	}
}
