package play_test

import (
	"math/rand"
	"reflect"
	"strings"
	"testing"

	"gantlet/api"
	"gantlet/asm"
	"gantlet/machine"
	"gantlet/order"
	"gantlet/play"
)

func program(t *testing.T, s string) []api.Instr {
	t.Helper()
	p, line, e := asm.Parse(strings.ReplaceAll(s, "; ", "\n") + "\n")
	if e != api.OK {
		t.Fatal(s, line, e)
	}
	return p
}

func conf() api.Conf {
	return api.Conf{Words: 100, Orecs: 8, Reads: 9, Undo: 10, Clock: 1000, Manager: api.Greedy}
}

func lines(l ...string) string { return strings.Join(l, "\n") + "\n" }

func TestPrint(t *testing.T) { // P28.1
	halt := program(t, "halt")
	s := api.Script{Conf: api.Conf{Words: 17, Orecs: 1 << 41, Clock: 5, Manager: api.Polite, Tries: 7}, Progs: [][]api.Instr{program(t, ":a; jump @a"), nil, halt}, Picks: []int{0, 0, 63, 0, 1, 1, 1}}
	want := lines("conf 17 2199023255552 0 0 5 polite 7", "prog", ":L0", "jump @L0", "done", "prog", "done", "prog", "halt", "done", "pick 0 2", "pick 63 1", "pick 0 1", "pick 1 3")
	if got, e := play.Print(s); got != want || e != api.OK {
		t.Error(got, e)
	}
	if got, e := play.Print(api.Script{Conf: api.Conf{Manager: api.Greedy}}); got != "conf 0 0 0 0 0 greedy 0\n" || e != api.OK {
		t.Error(got, e)
	}
	many := make([][]api.Instr, 65)
	for i, c := range []struct {
		turn func(s *api.Script)
		e    api.Errno
	}{
		{func(s *api.Script) {}, api.OK}, {func(s *api.Script) { s.Progs = many[:64] }, api.OK}, {func(s *api.Script) { s.Progs = many }, api.ErrMany}, {func(s *api.Script) { s.Progs, s.Conf.Words = many, -1 }, api.ErrMany},
		{func(s *api.Script) { s.Picks = make([]int, api.MaxSteps) }, api.OK}, {func(s *api.Script) { s.Picks = make([]int, api.MaxSteps+1) }, api.ErrMany},
		{func(s *api.Script) { s.Conf.Words = -1 }, api.ErrPlay}, {func(s *api.Script) { s.Conf.Words = 1<<41 + 1 }, api.ErrPlay}, {func(s *api.Script) { s.Conf.Orecs = -1 }, api.ErrPlay}, {func(s *api.Script) { s.Conf.Reads = -1 }, api.ErrPlay}, {func(s *api.Script) { s.Conf.Undo = -1 }, api.ErrPlay}, {func(s *api.Script) { s.Conf.Clock = 1<<41 + 1 }, api.ErrPlay}, {func(s *api.Script) { s.Conf.Tries = -1 }, api.ErrPlay}, {func(s *api.Script) { s.Conf.Tries = 1 << 41 }, api.OK},
		{func(s *api.Script) { s.Conf.Manager = 0 }, api.ErrPlay}, {func(s *api.Script) { s.Conf.Manager = 3 }, api.ErrPlay}, {func(s *api.Script) { s.Picks = []int{64} }, api.ErrPlay}, {func(s *api.Script) { s.Picks = []int{0, -1} }, api.ErrPlay},
		{func(s *api.Script) { s.Progs = [][]api.Instr{halt, {{}}} }, api.ErrPlay}, {func(s *api.Script) { s.Progs = [][]api.Instr{{{Op: api.OJump, A: 2}}} }, api.ErrPlay}, {func(s *api.Script) { s.Progs = [][]api.Instr{{{Op: api.OEnd}}} }, api.OK},
	} {
		x := s
		c.turn(&x)
		if e := play.Check(x); e != c.e {
			t.Error(i, e)
		}
		if got, e := play.Print(x); e != c.e || (got == "") != (e != api.OK) {
			t.Error(i, len(got), e)
		}
	}
	full := api.Script{Conf: api.Conf{Manager: api.Greedy}} // as long as it may be, and a byte more
	start, _ := play.Print(full)
	left := api.MaxText - len(start)
	for rows := left / len("pick 0 1\n"); rows > 0; rows-- {
		full.Picks = append(full.Picks, rows%2)
		for range 9 * min(1, max(0, left%9-rows+1)) {
			full.Picks = append(full.Picks, rows%2) // ten of them take a byte more
		}
	}
	if got, e := play.Print(full); len(got) != api.MaxText || e != api.OK {
		t.Error(len(got), e)
	}
	for range 9 {
		full.Picks = append([]int{full.Picks[0]}, full.Picks...)
	}
	if got, e := play.Print(full); got != "" || e != api.ErrLong {
		t.Error(len(got), e)
	}
	for n := range 2 * 1 << 15 { // rows of one pick each
		s.Picks = append(s.Picks, n%2)
	}
	if got, e := play.Print(s); got != "" || e != api.ErrLong || play.Check(s) != api.OK {
		t.Error(len(got), e)
	}
}

func TestSame(t *testing.T) { // P28.1
	s := func() api.Script {
		return api.Script{Conf: conf(), Progs: [][]api.Instr{program(t, "halt"), nil}, Picks: []int{1, 0}}
	}
	same := s()
	same.Progs[1] = []api.Instr{}
	if !play.Same(s(), same) || !play.Same(api.Script{}, api.Script{Picks: []int{}, Progs: [][]api.Instr{}}) {
		t.Error("they are")
	}
	for i, turn := range []func(s *api.Script){
		func(s *api.Script) { s.Conf.Undo++ }, func(s *api.Script) { s.Conf.Manager = api.Polite }, func(s *api.Script) { s.Conf.Tries++ }, func(s *api.Script) { s.Progs = s.Progs[:1] }, func(s *api.Script) { s.Progs[0][0].C = 1 }, func(s *api.Script) { s.Progs[0], s.Progs[1] = s.Progs[1], s.Progs[0] }, func(s *api.Script) { s.Picks[0] = 2 }, func(s *api.Script) { s.Picks = append(s.Picks, 0) },
	} {
		x := s()
		turn(&x)
		if play.Same(s(), x) || play.Same(x, s()) {
			t.Error(i)
		}
	}
}

const first = "conf 17 1 1 1 1 greedy 0"

func TestParse(t *testing.T) { // P28.2
	s, line, e := play.Parse(lines("conf 17 1 2 3 2199023255552 polite 4", "prog", "# a remark", "", ":a", "jump @a", "done", "prog", "done", "pick 63 2", "pick 0 1", "pick 0 1"))
	want := api.Script{Conf: api.Conf{Words: 17, Orecs: 1, Reads: 2, Undo: 3, Clock: 1 << 41, Manager: api.Polite, Tries: 4}, Progs: [][]api.Instr{program(t, ":a; jump @a"), nil}, Picks: []int{63, 63, 0, 0}}
	if e != api.OK || line != 0 || !play.Same(s, want) {
		t.Error(s, line, e)
	}
	many := strings.Repeat("prog\ndone\n", 64)
	if s, _, e := play.Parse(lines(first) + many); e != api.OK || len(s.Progs) != 64 {
		t.Error(e)
	}
	if s, _, e := play.Parse(lines(first, "pick 0 1048575", "pick 0 1")); e != api.OK || len(s.Picks) != api.MaxSteps {
		t.Error(e)
	}
	long := lines(first, "prog") + strings.Repeat("#", api.MaxText) + lines("", "done")
	if s, line, e := play.Parse(long); line != 0 || e != api.ErrLong || !reflect.DeepEqual(s, api.Script{}) {
		t.Error(line, e)
	}
	full := lines(first, "prog") + strings.Repeat("#", api.MaxText-len(lines(first, "prog"))-6) + lines("", "done")
	if _, line, e := play.Parse(full); len(full) != api.MaxText || line != 0 || e != api.OK {
		t.Error(len(full), line, e)
	}
}

func TestWrongLines(t *testing.T) { // P28.2
	many := strings.Repeat("prog\ndone\n", 64)
	for _, c := range []struct {
		s    string
		line int
	}{
		{"", 1}, {"\n", 1}, {first, 1}, {"conf", 1}, {lines("conf 17 1 1 1 1 greedy"), 1}, {lines("conf 17 1 1 1 1 greedy 0 0"), 1}, {lines("conf 17 1 1 1 1 Greedy 0"), 1}, {lines("conf 17 1 1 1 greedy 1 0"), 1}, {lines("Conf 17 1 1 1 1 greedy 0"), 1},
		{lines("conf 017 1 1 1 1 greedy 0"), 1}, {lines("conf +17 1 1 1 1 greedy 0"), 1}, {lines("conf -1 1 1 1 1 greedy 0"), 1}, {lines("conf 2199023255553 1 1 1 1 greedy 0"), 1}, {lines("conf 99999999999999999999 1 1 1 1 greedy 0"), 1}, {lines("conf  17 1 1 1 1 greedy 0"), 1}, {lines("conf 17 1 1 1 1 greedy 0 "), 1}, {lines("conf 17 1 1 1 1 greedy x"), 1}, {lines("conf 17 1 1 1 1 greedy -0"), 1}, {lines("# x", first), 1}, {lines("prog", "done"), 1},
		{lines(first, ""), 2}, {lines(first, "# x"), 2}, {lines(first, first), 2}, {lines(first, "done"), 2}, {lines(first, "prog "), 2}, {lines(first, "pick"), 2}, {lines(first, "pick 0"), 2}, {lines(first, "pick 64 1"), 2}, {lines(first, "pick -1 1"), 2}, {lines(first, "pick 0 0"), 2}, {lines(first, "pick 0 1048577"), 2}, {lines(first, "pick 0 1 1"), 2}, {lines(first, "pick 00 1"), 2}, {lines(first, "pick 0 01"), 2}, {lines(first, "pick  0 1"), 2},
		{lines(first, "pick 0 1", "prog", "done"), 3}, {lines(first) + many + lines("prog", "done"), 130}, {lines(first, "pick 0 1048576", "pick 1 1"), 3},
		{lines(first, "prog", "halt", "bad", "done"), 4}, {lines(first, "prog", "halt", "jump @x", "done", "bad"), 4}, {lines(first, "prog", "done", "prog", "#", ":a", ":a", "done"), 7}, {lines(first, "prog", "prog", "done"), 3},
		{lines(first, "prog"), 3}, {lines(first, "prog", "bad"), 4}, {lines(first, "prog", "halt") + "done", 4}, {lines(first, "prog", "bad", "jump @x") + "x", 5},
		{lines(first) + "x", 2}, {lines(first, "prog", "done") + "pick 0 1", 4}, {lines(first, "bad") + "x", 2},
	} {
		if s, line, e := play.Parse(c.s); line != c.line || e != api.ErrPlay || !reflect.DeepEqual(s, api.Script{}) {
			t.Errorf("%q: %v %d %d", c.s[:min(len(c.s), 80)], s, line, e)
		}
		if s, line, e := play.Text(c.s); s != "" || line != c.line || e != api.ErrPlay {
			t.Errorf("%q: %v %d %d", c.s[:min(len(c.s), 80)], s, line, e)
		}
	}
}

func TestRun(t *testing.T) { // P28.3, the example
	zeros, nils := strings.Repeat(" 0", 8), strings.Repeat(" nil", 8)
	text := lines("conf 17 1 1 1 1 greedy 0", "prog", "halt", "done", "pick 0 1")
	want := lines("machine 0", "steps 1", "thread 0 2 0 0"+zeros, "told 0", "object @1.1 2 0"+nils+zeros, "order 0 0")
	if got, line, e := play.Text(text); got != want || line != 0 || e != api.OK {
		t.Error(got, line, e)
	}
	for _, c := range []struct {
		s    api.Script
		want string
	}{{api.Script{}, "machine 210\n"}, {api.Script{Progs: [][]api.Instr{nil}}, "machine 150\n"}, {api.Script{Conf: conf(), Progs: [][]api.Instr{nil}}, "machine 120\n"}} {
		if got := play.Run(c.s); got != c.want {
			t.Error(got)
		}
	}
	s := api.Script{Conf: conf(), Progs: [][]api.Instr{program(t, "root r0; new r1 2 1; const r2 -4; begin; set r1 1 r2; set r0 3 r1; end; emit r1; emit r2; nil r3; emit r3; get r4 r3 0"), program(t, "root r0; begin; get r1 r0 8; retry; end")}}
	for range 40 {
		s.Picks = append(s.Picks, 0)
	}
	for range 30 {
		s.Picks = append(s.Picks, 1, -5, 2) // there are no such threads
	}
	want = lines("machine 0", "steps 70", "plain 0 1 2 2 2 0 @1.18", "block 0 3 4 12 12 0", "fail 0 11 21 21 21 11",
		"thread 0 3 11 11 @1.1 @1.18 -4 nil 0 0 0 0", "told 0 @1.18 -4 nil", "thread 1 1 0 1 @1.1 0 0 0 0 0 0 0", "told 1",
		"object @1.1 2 0 nil nil nil @1.18 nil nil nil nil"+zeros, "object @1.18 2 0 nil -4", "order 3 0")
	if got := play.Run(s); got != want {
		t.Error(got)
	}
	s = api.Script{Conf: conf(), Progs: [][]api.Instr{program(t, "root r0; new r1 1 0; set r0 0 r1; begin; new r2 1 0; free r1; end; halt"), program(t, "begin; :a; jump @a; end")}}
	for range 6 {
		s.Picks = append(s.Picks, 1)
	}
	for range 100 {
		s.Picks = append(s.Picks, 0)
	}
	got := play.Run(s) // it waits for its fence: what is given back is not told
	if strings.Contains(got, "\nobject @1.18") || !strings.Contains(got, "\nobject @1.20 1 0 0\norder 3 0\n") || !strings.Contains(got, " 0 @1.20\nthread 0 0 0 6 ") {
		t.Error(got)
	}
}

// some is a program by chance.
func some(r *rand.Rand) string {
	l := []string{"root r0", "root r1", "const r2 1"}
	depth, other := 0, []int{}
	for range r.Intn(25) {
		switch k := r.Intn(14); {
		case k == 0 && depth < 4:
			l, depth, other = append(l, "begin"), depth+1, append(other, 0)
		case k == 1 && depth > 0:
			l, depth, other = append(l, "end"), depth-1, other[:depth-1]
		case k == 2 && depth > 0 && other[depth-1] == 0:
			l, other[depth-1] = append(l, "else"), 1
		case k == 3 && depth > 0 && r.Intn(2) == 0:
			l = append(l, "retry")
		case k < 6:
			l = append(l, []string{"get r3 r1 8", "get r2 r0 9", "get r5 r0 1"}[r.Intn(3)])
		case k < 8:
			l = append(l, []string{"set r0 8 r2", "set r0 9 r2", "set r0 1 r4", "set r4 0 r5"}[r.Intn(4)])
		case k < 10:
			l = append(l, "new r4 2 1")
		case k == 10:
			l = append(l, "emit r3")
		case k == 11:
			l = append(l, []string{"free r4", "free r5"}[r.Intn(2)])
		default:
			l = append(l, "add r2 r2 r2")
		}
	}
	for range depth {
		l = append(l, "end")
	}
	return strings.Join(l, "; ")
}

func script(t *testing.T, r *rand.Rand) api.Script {
	s := api.Script{Conf: conf()}
	s.Conf.Orecs = 1 + r.Intn(9)
	if r.Intn(2) == 0 {
		s.Conf.Manager, s.Conf.Tries = api.Polite, 1+r.Intn(4)
	}
	threads := 1 + r.Intn(4)
	for range threads {
		s.Progs = append(s.Progs, program(t, some(r)))
	}
	for range r.Intn(400) {
		th := r.Intn(threads + r.Intn(2))
		for range 1 + r.Intn(3) {
			s.Picks = append(s.Picks, th)
		}
	}
	return s
}

func TestWhatFollows(t *testing.T) { // P28.4, P28.5, and P1 of the whole
	for seed := range int64(300) {
		s := script(t, rand.New(rand.NewSource(seed)))
		text, e := play.Print(s)
		if e != api.OK {
			t.Fatal(seed, e)
		}
		back, line, e := play.Parse(text)
		if e != api.OK || line != 0 || !play.Same(back, s) {
			t.Fatal(seed, line, e)
		}
		report, _, e := play.Text(text)
		if e != api.OK || report != play.Run(s) {
			t.Fatal(seed, e)
		}
		events := 0
		for _, l := range strings.Split(report, "\n") {
			if strings.HasPrefix(l, "plain ") || strings.HasPrefix(l, "block ") || strings.HasPrefix(l, "fail ") {
				events++
			}
		}
		m, _ := machine.New(s.Conf, s.Progs)
		m.Run(s.Picks)
		n, e := order.Judge(s.Progs, m.Events(), m.Reports(), m.Undone())
		l := strings.Split(strings.TrimSuffix(report, "\n"), "\n")
		if last := l[len(l)-1]; n != events || e != api.OK || last != "order "+number(n)+" 0" {
			t.Fatal(seed, last, n, events)
		}
	}
}

func number(n int) string {
	s := string(rune('0' + n%10))
	if n > 9 {
		s = number(n/10) + s
	}
	return s
}
