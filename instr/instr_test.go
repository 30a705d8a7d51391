package instr_test

import (
	"bytes"
	"math"
	"testing"

	"gantlet/api"
	"gantlet/instr"
)

var names = []string{"", "const", "nil", "move", "add", "sub", "less", "eq", "jump", "jumpz", "root", "new", "free", "get", "set", "begin", "else", "end", "retry", "emit", "halt"}

// shapes of operands: r register, n number, p place, f field, s size, m mask.
var shapes = []string{"", "rn", "r", "rr", "rrr", "rrr", "rrr", "rrr", "p", "rp", "r", "rsm", "r", "rrf", "rfr", "", "", "", "", "r", ""}

const big = api.MaxConst

func TestKinds(t *testing.T) { // P10.1, P10.4
	for op := api.Op(-2); op < 30; op++ {
		is := op >= 1 && op <= 20
		name, n := "", 0
		if is {
			name, n = names[op], len(shapes[op])
		}
		if instr.Name(op) != name || instr.Operands(op) != n {
			t.Error(op, instr.Name(op), instr.Operands(op))
		}
		local := is && (op <= api.ORoot || op == api.OEmit)
		if instr.Local(op) != local {
			t.Error(op, "local")
		}
		if back, ok := instr.ByName(name); is && (back != op || !ok) {
			t.Error(name, back)
		}
	}
	for _, s := range []string{"", "Const", "halt ", "nop", "const r0"} {
		if op, ok := instr.ByName(s); ok || op != api.NoOp {
			t.Error(s, op)
		}
	}
	if instr.Name(1<<40) != "" || instr.Operands(1<<40) != 0 {
		t.Error("no such kind")
	}
}

func bounds(s byte, size int) (int, int) {
	switch s {
	case 'r':
		return 0, 7
	case 'n':
		return -big, big
	case 'p':
		return 0, 512
	case 'f':
		return 0, 15
	case 's':
		return 1, 16
	case 'm':
		return 0, 1<<size - 1
	}
	return 0, 0
}

func set(i *api.Instr, at, n int) { *[]*int{&i.A, &i.B, &i.C}[at] = n }

func TestCheck(t *testing.T) { // P10.1
	for op := api.OConst; op <= api.OHalt; op++ {
		base := api.Instr{Op: op}
		if op == api.ONew {
			base.B = 3
		}
		for at := range 3 {
			s := byte(0)
			if at < len(shapes[op]) {
				s = shapes[op][at]
			}
			low, high := bounds(s, base.B)
			for _, c := range []struct {
				n int
				e api.Errno
			}{{low, api.OK}, {high, api.OK}, {low - 1, api.ErrInstr}, {high + 1, api.ErrInstr}, {math.MinInt, api.ErrInstr}, {math.MaxInt, api.ErrInstr}} {
				i := base
				set(&i, at, c.n)
				if e := instr.Check(i); e != c.e {
					t.Error(i, e)
				}
				if c.e != api.OK {
					if b, e := instr.Encode(i); len(b) != 0 || e != api.ErrInstr {
						t.Error(i, b, e)
					}
				}
			}
		}
	}
	for _, c := range []struct {
		i api.Instr
		e api.Errno
	}{
		{api.Instr{Op: api.ONew, A: 1, B: 1, C: 1}, api.OK}, {api.Instr{Op: api.ONew, A: 1, B: 1, C: 2}, api.ErrInstr},
		{api.Instr{Op: api.ONew, A: 1, B: 16, C: 1<<16 - 1}, api.OK}, {api.Instr{Op: api.ONew, A: 1, B: 16, C: 1 << 16}, api.ErrInstr},
		{api.Instr{Op: api.ONew, B: -1}, api.ErrInstr}, {api.Instr{Op: api.ONew, B: math.MinInt}, api.ErrInstr},
		{api.Instr{}, api.ErrInstr}, {api.Instr{Op: 21}, api.ErrInstr}, {api.Instr{Op: -1}, api.ErrInstr}, {api.Instr{Op: 1 << 50}, api.ErrInstr},
	} {
		if e := instr.Check(c.i); e != c.e {
			t.Error(c, e)
		}
	}
}

var encoded = []struct {
	i api.Instr
	b []byte
}{
	{api.Instr{Op: api.OSet, A: 2, B: 5, C: 1}, []byte{14, 2, 5, 1}},
	{api.Instr{Op: api.OConst, A: 3, B: -1}, []byte{1, 3, 255, 255, 255, 255, 255, 255, 255, 255}},
	{api.Instr{Op: api.OConst, A: 0, B: 1<<40 - 2}, []byte{1, 0, 0, 0, 0, 255, 255, 255, 255, 254}},
	{api.Instr{Op: api.OConst, A: 0, B: -big}, []byte{1, 0, 255, 255, 255, 0, 0, 0, 0, 0}},
	{api.Instr{Op: api.OJump, A: 511}, []byte{8, 1, 255}},
	{api.Instr{Op: api.OJumpZ, A: 7, B: 512}, []byte{9, 7, 2, 0}},
	{api.Instr{Op: api.ONew, A: 1, B: 16, C: 0xfe02}, []byte{11, 1, 16, 0, 254, 2}},
	{api.Instr{Op: api.OGet, A: 1, B: 2, C: 15}, []byte{13, 1, 2, 15}},
	{api.Instr{Op: api.OAdd, A: 1, B: 2, C: 3}, []byte{4, 1, 2, 3}},
	{api.Instr{Op: api.OMove, A: 1, B: 2}, []byte{3, 1, 2}},
	{api.Instr{Op: api.OEmit, A: 4}, []byte{19, 4}},
	{api.Instr{Op: api.OHalt}, []byte{20}},
}

func TestBytes(t *testing.T) { // P10.2, P10.4
	for _, c := range encoded {
		if b, e := instr.Encode(c.i); e != api.OK || !bytes.Equal(b, c.b) {
			t.Error(c, b, e)
		}
		in := append(append([]byte{}, c.b...), 9, 8, 7)
		i, rest, e := instr.Decode(in)
		if e != api.OK || i != c.i || !bytes.Equal(rest, []byte{9, 8, 7}) {
			t.Error(c, i, rest, e)
		}
		if len(rest) > 0 {
			rest[0] = 1
			if in[len(c.b)] != 9 {
				t.Error("an answer is new memory")
			}
		}
		if i, rest, e := instr.Decode(c.b); e != api.OK || i != c.i || len(rest) != 0 {
			t.Error(c, i, rest, e)
		}
		for n := range c.b { // cut off
			if i, rest, e := instr.Decode(c.b[:n]); e != api.ErrShort || i != (api.Instr{}) || rest != nil {
				t.Error(c, n, i, e)
			}
		}
	}
	for _, b := range [][]byte{{0}, {21}, {255, 1, 2}, {3, 8, 0}, {3, 0, 8}, {8, 2, 1}, {13, 0, 0, 16}, {11, 0, 0, 0, 0, 0}, {11, 0, 17, 0, 0, 0}, {11, 0, 2, 0, 0, 4}, {11, 0, 16, 1, 0, 0}, {1, 0, 0, 0, 1, 0, 0, 0, 0, 1}, {1, 0, 128, 0, 0, 0, 0, 0, 0, 0}} {
		if i, rest, e := instr.Decode(b); e != api.ErrInstr || i != (api.Instr{}) || rest != nil {
			t.Error(b, i, rest, e)
		}
	}
	if _, _, e := instr.Decode(nil); e != api.ErrShort {
		t.Error(e)
	}
}

func TestThereAndBack(t *testing.T) { // P10.4: of all short rows of bytes
	for op := range 256 {
		for x := range 4096 {
			b := []byte{byte(op), byte(x >> 8), byte(x >> 4 & 15), byte(x & 15)}
			i, rest, e := instr.Decode(b)
			if e != api.OK {
				continue
			}
			if back, e := instr.Encode(i); e != api.OK || !bytes.Equal(append(back, rest...), b) {
				t.Fatal(b, i, back)
			}
		}
	}
}

func TestTargets(t *testing.T) { // P10.3
	for op := api.Op(-1); op < 22; op++ {
		i := api.Instr{Op: op, A: 4, B: 5, C: 6}
		place, jump := 0, false
		aimed := i
		switch op {
		case api.OJump:
			place, jump, aimed.A = 4, true, 9999
		case api.OJumpZ:
			place, jump, aimed.B = 5, true, 9999
		}
		if p, ok := instr.Target(i); p != place || ok != jump {
			t.Error(i, p, ok)
		}
		if instr.Aim(i, 9999) != aimed {
			t.Error(i, instr.Aim(i, 9999))
		}
	}
}
