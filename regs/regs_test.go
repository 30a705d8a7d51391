package regs_test

import (
	"math"
	"math/rand"
	"testing"

	"gantlet/api"
	"gantlet/instr"
	"gantlet/regs"
	"gantlet/value"
)

type file = [api.Regs]api.Val

func num(n int) api.Val { return value.Number(n) }

var root, _ = value.Of(1, 1)

func TestStartPutTold(t *testing.T) { // P14.1
	r := regs.Start()
	for i, v := range r {
		if v != num(0) {
			t.Error(i, v)
		}
	}
	for i := range 8 {
		want := r
		want[i] = api.Val{K: 9, N: 9}
		if regs.Put(r, i, want[i]) != want {
			t.Error(i)
		}
	}
	for _, at := range []int{-1, 8, math.MaxInt, math.MinInt} {
		if regs.Put(r, at, num(5)) != r {
			t.Error(at)
		}
	}
	r[3] = api.Val{K: 9, N: 9}
	if v, ok := regs.Told(r, api.Instr{Op: api.OEmit, A: 3}); v != r[3] || !ok {
		t.Error(v, ok)
	}
	for _, i := range []api.Instr{{}, {Op: api.OEmit, A: 8}, {Op: api.OEmit, A: -1}, {Op: api.OEmit, A: 3, B: 1}, {Op: api.OMove, A: 3}, {Op: 99, A: 3}} {
		if v, ok := regs.Told(r, i); v != (api.Val{}) || ok {
			t.Error(i, v, ok)
		}
	}
}

func TestDo(t *testing.T) { // P14.2
	r := file{num(5), num(7), value.Nil(), root, num(0), api.Val{}, api.Val{K: 7, N: 3}, num(math.MaxInt)}
	type in = api.Instr
	for _, c := range []struct {
		i    api.Instr
		v    api.Val // in register A, of those that turn one
		next int
	}{
		{in{Op: api.OConst, A: 2, B: -9}, num(-9), 11}, {in{Op: api.ONil, A: 1}, value.Nil(), 11},
		{in{Op: api.OMove, A: 0, B: 6}, r[6], 11}, {in{Op: api.OMove, A: 0, B: 5}, api.Val{}, 11}, {in{Op: api.OMove, A: 1, B: 1}, num(7), 11},
		{in{Op: api.OAdd, A: 2, B: 0, C: 1}, num(12), 11}, {in{Op: api.OSub, A: 2, B: 0, C: 1}, num(-2), 11}, {in{Op: api.OAdd, A: 7, B: 7, C: 7}, num(-2), 11},
		{in{Op: api.OLess, A: 2, B: 0, C: 1}, num(1), 11}, {in{Op: api.OLess, A: 2, B: 1, C: 0}, num(0), 11},
		{in{Op: api.OEq, A: 0, B: 2, C: 4}, num(0), 11}, {in{Op: api.OEq, A: 0, B: 3, C: 3}, num(1), 11}, {in{Op: api.OEq, A: 0, B: 6, C: 6}, num(1), 11},
		{in{Op: api.ORoot, A: 4}, root, 11},
		{in{Op: api.OJump, A: 0}, r[0], 0}, {in{Op: api.OJump, A: 512}, r[0], 512},
		{in{Op: api.OJumpZ, A: 4, B: 3}, r[4], 3}, {in{Op: api.OJumpZ, A: 2, B: 3}, r[2], 3}, {in{Op: api.OJumpZ, A: 0, B: 3}, r[0], 11}, {in{Op: api.OJumpZ, A: 3, B: 3}, r[3], 11}, {in{Op: api.OJumpZ, A: 5, B: 3}, r[5], 11},
		{in{Op: api.OEmit, A: 2}, r[2], 11},
	} {
		want := r
		if _, jump := instr.Target(c.i); !jump {
			want[c.i.A] = c.v
		}
		if got, next, e := regs.Do(r, 10, c.i, root); got != want || next != c.next || e != api.OK {
			t.Error(c, got, next, e)
		}
	}
	if got, _, _ := regs.Do(r, 0, in{Op: api.ORoot, A: 1}, api.Val{K: 8, N: 8}); got[1] != (api.Val{K: 8, N: 8}) {
		t.Error("the root, whatever it is", got[1])
	}
	if _, next, e := regs.Do(r, 511, in{Op: api.ONil}, root); next != 512 || e != api.OK {
		t.Error(next, e)
	}
}

func TestErrors(t *testing.T) { // P14.2
	r := file{num(5), value.Nil()}
	type in = api.Instr
	for _, c := range []struct {
		i  api.Instr
		pc int
		e  api.Errno
	}{
		{in{}, 0, api.ErrInstr}, {in{Op: 77}, 0, api.ErrInstr}, {in{Op: api.OMove, A: 8}, 0, api.ErrInstr}, {in{Op: api.OMove, B: -1}, -5, api.ErrInstr},
		{in{Op: api.ONew, B: 1}, 0, api.ErrInstr}, {in{Op: api.OFree}, 0, api.ErrInstr}, {in{Op: api.OGet}, 0, api.ErrInstr}, {in{Op: api.OSet}, 0, api.ErrInstr}, {in{Op: api.OBegin}, 0, api.ErrInstr}, {in{Op: api.OElse}, 0, api.ErrInstr}, {in{Op: api.OEnd}, 0, api.ErrInstr}, {in{Op: api.ORetry}, 0, api.ErrInstr}, {in{Op: api.OHalt}, 900, api.ErrInstr},
		{in{Op: api.ONil}, -1, api.ErrRange}, {in{Op: api.ONil}, 512, api.ErrRange}, {in{Op: api.OAdd, B: 1, C: 1}, 512, api.ErrRange},
		{in{Op: api.OAdd, B: 0, C: 1}, 0, api.ErrKind}, {in{Op: api.OSub, B: 1, C: 0}, 0, api.ErrKind}, {in{Op: api.OLess, B: 1, C: 1}, 0, api.ErrKind}, {in{Op: api.OAdd, B: 7, C: 0}, 0, api.ErrKind},
	} {
		if got, next, e := regs.Do(r, c.pc, c.i, root); got != (file{}) || next != 0 || e != c.e {
			t.Error(c, got, next, e)
		}
	}
}

// P14.3, P14.4: registers that an instruction does not name neither are turned, nor matter.
func TestItsOwnAlone(t *testing.T) {
	rnd := rand.New(rand.NewSource(10))
	vals := []api.Val{num(0), num(1), num(-7), value.Nil(), root, {}, {K: 5, N: 5}}
	for range 5000 {
		i := api.Instr{Op: api.Op(1 + rnd.Intn(10)), A: rnd.Intn(8), B: rnd.Intn(8), C: rnd.Intn(8)}
		if instr.Operands(i.Op) < 3 {
			i.C = 0
		}
		if instr.Operands(i.Op) < 2 {
			i.B = 0
		}
		var r, s file
		for at := range r {
			r[at], s[at] = vals[rnd.Intn(len(vals))], vals[rnd.Intn(len(vals))]
		}
		for _, at := range []int{i.A, i.B, i.C} {
			s[at] = r[at]
		}
		got, next, e := regs.Do(r, 9, i, root)
		other, next2, e2 := regs.Do(s, 9, i, root)
		if next != next2 || e != e2 {
			t.Fatal(i, r, s)
		}
		if e != api.OK {
			continue
		}
		for at := range got {
			if at != i.A && got[at] != r[at] {
				t.Fatal("another one is turned", i, r, got)
			}
		}
		if got[i.A] != other[i.A] {
			t.Fatal("another one matters", i, r, s)
		}
	}
}
