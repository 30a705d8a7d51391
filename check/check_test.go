package check_test

import (
	"math/rand"
	"reflect"
	"testing"

	"gantlet/api"
	"gantlet/check"
	"gantlet/instr"
	"gantlet/prog"
)

// program reads one letter an instruction: b begin, e else, d end, r retry, h halt, j and a letter a jump to the place of that letter ('A' is 0), z and a letter a jumpz, x one that may not be, . any other.
func program(s string) []api.Instr {
	var p []api.Instr
	for at := 0; at < len(s); at++ {
		i := api.Instr{}
		switch s[at] {
		case 'b':
			i.Op = api.OBegin
		case 'e':
			i.Op = api.OElse
		case 'd':
			i.Op = api.OEnd
		case 'r':
			i.Op = api.ORetry
		case 'h':
			i.Op = api.OHalt
		case '.':
			i.Op = api.ONil
		case 'j':
			at++
			i = api.Instr{Op: api.OJump, A: int(s[at] - 'A')}
		case 'z':
			at++
			i = api.Instr{Op: api.OJumpZ, A: 1, B: int(s[at] - 'A')}
		}
		p = append(p, i)
	}
	return p
}

func fill(n int) []api.Instr {
	var p []api.Instr
	for range n {
		p = append(p, api.Instr{Op: api.ONil})
	}
	return p
}

func TestWrong(t *testing.T) { // P12.1
	for _, c := range []struct {
		p     string
		wrong int
		e     api.Errno
	}{
		{"h", -1, api.OK}, {".", -1, api.OK}, {"bd", -1, api.OK}, {"bed", -1, api.OK}, {"bred", -1, api.OK}, {"bbedebedd", -1, api.OK},
		{"", 0, api.ErrCheck}, {"x", 0, api.ErrCheck}, {"..x.", 2, api.ErrCheck},
		{"e", 0, api.ErrCheck}, {"bdebd", 2, api.ErrCheck}, {"beed", 2, api.ErrCheck}, {"bebedd", -1, api.OK}, {"bebed", 5, api.ErrCheck},
		{".d", 1, api.ErrCheck}, {"bdd", 2, api.ErrCheck}, {".r", 1, api.ErrCheck}, {"bdr", 2, api.ErrCheck}, {"brd", -1, api.OK}, {"berd", -1, api.OK},
		{"bhd", 1, api.ErrCheck}, {"behd", 2, api.ErrCheck}, {"bdh", -1, api.OK},
		{"b", 1, api.ErrCheck}, {"bbd", 3, api.ErrCheck}, {"be.", 3, api.ErrCheck},
		{"bbbbbbbbdddddddd", -1, api.OK}, {"bbbbbbbbbddddddddd", 8, api.ErrDepth}, {"bbbbbbbbdbddddddddd", 18, api.ErrCheck}, {"bbbbbbbbdbdddddddd", -1, api.OK},
		{"bbbbbbbbx", 8, api.ErrCheck}, {"xbbbbbbbbb", 0, api.ErrCheck},
		{"jB", -1, api.OK}, {"jC", 0, api.ErrCheck}, {"zA.zD", -1, api.OK}, {"zA.zE", 2, api.ErrCheck},
		{"jCjA.", -1, api.OK}, {"jBb.d", -1, api.OK}, {"jCb.d", 0, api.ErrCheck}, {"jDb.d", 0, api.ErrCheck}, {"jEb.d", -1, api.OK},
		{"bjAd", 1, api.ErrCheck}, {"bjBd", -1, api.OK}, {"bjCd", -1, api.OK}, {"bjDd", 1, api.ErrCheck},
		{"bjCed", -1, api.OK}, {"bjDed", 1, api.ErrCheck}, {"bezCd", -1, api.OK}, {"bezBd", 2, api.ErrCheck}, {"bezDd", -1, api.OK},
		{"bjCb.dd", -1, api.OK}, {"bjDb.dd", 1, api.ErrCheck}, {"bjEb.dd", 1, api.ErrCheck}, {"bjFb.dd", -1, api.OK}, {"bbzFdd", 2, api.ErrCheck},
		{"jZb", 2, api.ErrCheck}, {"jZx", 1, api.ErrCheck}, {"jZjZ", 0, api.ErrCheck},
	} {
		p := program(c.p)
		if w, e := check.Wrong(p), check.Check(p); w != c.wrong || e != c.e {
			t.Error(c, w, e)
		}
	}
	if check.Check(fill(512)) != api.OK || check.Wrong(fill(513)) != 0 || check.Check(fill(513)) != api.ErrCheck {
		t.Error("length")
	}
	deep := program("bbbbbbbbb") // one that may not be else, too
	deep[8].A = 1
	if check.Check(deep) != api.ErrCheck || check.Wrong(deep) != 8 {
		t.Error("an instruction that may not be")
	}
	for _, op := range []api.Op{api.OElse, api.OEnd, api.ORetry} {
		if p := []api.Instr{{Op: api.OBegin}, {Op: op, C: 5}, {Op: api.OEnd}}; check.Wrong(p) != 1 {
			t.Error(op)
		}
	}
}

func TestMates(t *testing.T) { // P12.2, P12.4
	for _, c := range []struct {
		p    string
		want []int
	}{
		{"bred", []int{2, -1, 3, 0}}, {"h", []int{-1}}, {"bd", []int{1, 0}}, {".b.d.", []int{-1, 3, -1, 1, -1}},
		{"bbedebdd", []int{4, 2, 3, 1, 7, 6, 5, 0}}, {"bdbd", []int{1, 0, 3, 2}},
	} {
		if l, e := check.Mates(program(c.p)); e != api.OK || !reflect.DeepEqual(l, c.want) {
			t.Error(c, l, e)
		}
	}
	for _, s := range []string{"", "b", "bbbbbbbbb", "x", "jZ"} {
		if l, e := check.Mates(program(s)); l != nil || e == api.OK || e != check.Check(program(s)) {
			t.Error(s, l, e)
		}
	}
}

func TestBranch(t *testing.T) { // P12.3
	p := program(".b.bed.e.dbd.")
	want := [][2]int{{-1, 0}, {-1, 0}, {1, 0}, {1, 0}, {3, 0}, {3, 1}, {1, 0}, {1, 0}, {1, 1}, {1, 1}, {-1, 0}, {10, 0}, {-1, 0}, {-1, 0}}
	for at, w := range want {
		if b, way := check.Branch(p, at); b != w[0] || way != w[1] {
			t.Error(at, b, way, w)
		}
	}
	for _, at := range []int{-1, 14, 1 << 40} {
		if b, way := check.Branch(p, at); b != -1 || way != 0 {
			t.Error(at, b, way)
		}
	}
	if b, way := check.Branch(program("b."), 1); b != -1 || way != 0 {
		t.Error("a program that may not be", b, way)
	}
	if check.Depth(p) != 2 || !reflect.DeepEqual(check.Blocks(p), []int{1, 10}) {
		t.Error(check.Depth(p), check.Blocks(p))
	}
	for s, n := range map[string]int{"h": 0, "bd": 1, "bdbd": 1, "bbbdbddd": 3, "": 0, "bbd": 0, "bbbbbbbbdddddddd": 8} {
		if check.Depth(program(s)) != n {
			t.Error(s, check.Depth(program(s)))
		}
	}
	for _, s := range []string{"", "h", "bdb"} {
		if l := check.Blocks(program(s)); len(l) != 0 {
			t.Error(s, l)
		}
	}
}

// programs that may be, by chance.
func some(n int) [][]api.Instr {
	r := rand.New(rand.NewSource(8))
	var l [][]api.Instr
	for len(l) < n {
		var p []api.Instr
		for range 1 + r.Intn(9) {
			i := api.Instr{Op: []api.Op{api.OBegin, api.OEnd, api.OElse, api.OEnd, api.OJump, api.OJumpZ, api.ONil, api.ORetry}[r.Intn(8)]}
			p = append(p, instr.Aim(i, r.Intn(9)))
		}
		if check.Check(p) == api.OK {
			l = append(l, p)
		}
	}
	return l
}

func TestWhatFollows(t *testing.T) { // P12.4, P12.5, P12.6
	l := some(400)
	for n, p := range l {
		mates, _ := check.Mates(p)
		for at, i := range p {
			b, w := check.Branch(p, at)
			switch i.Op {
			case api.OBegin:
				to := mates[at]
				if p[to].Op == api.OElse {
					to = mates[to]
				}
				if p[to].Op != api.OEnd || mates[to] != at {
					t.Fatal(p, mates)
				}
			case api.OElse, api.OEnd:
			default:
				if mates[at] != -1 {
					t.Fatal(p, mates)
				}
				if to, jump := instr.Target(i); jump {
					if b2, w2 := check.Branch(p, to); b2 != b || w2 != w {
						t.Fatal(p, at)
					}
				} else if b2, w2 := check.Branch(p, at+1); b2 != b || w2 != w {
					t.Fatal(p, at)
				}
			}
		}
		both, e := prog.Link(p, l[(n+1)%len(l)])
		if e != api.OK || check.Check(both) != api.OK {
			t.Fatal(p, both, e)
		}
	}
}
