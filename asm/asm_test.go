package asm_test

import (
	"math/rand"
	"reflect"
	"strings"
	"testing"

	"gantlet/api"
	"gantlet/asm"
	"gantlet/prog"
)

var halt = api.Instr{Op: api.OHalt}

// all is each kind once, each with its line.
var all = []struct {
	i    api.Instr
	line string
}{
	{api.Instr{Op: api.OConst, A: 3, B: -api.MaxConst}, "const r3 -1099511627776"}, {api.Instr{Op: api.OConst, B: api.MaxConst}, "const r0 1099511627776"},
	{api.Instr{Op: api.ONil, A: 7}, "nil r7"}, {api.Instr{Op: api.OMove, A: 1, B: 2}, "move r1 r2"},
	{api.Instr{Op: api.OAdd, A: 1, B: 2, C: 3}, "add r1 r2 r3"}, {api.Instr{Op: api.OSub, A: 1, B: 2, C: 3}, "sub r1 r2 r3"},
	{api.Instr{Op: api.OLess, A: 1, B: 2, C: 3}, "less r1 r2 r3"}, {api.Instr{Op: api.OEq, A: 1, B: 2, C: 3}, "eq r1 r2 r3"},
	{api.Instr{Op: api.OJump, A: 2}, "jump @L2"}, {api.Instr{Op: api.OJumpZ, A: 4, B: 12}, "jumpz r4 @L12"},
	{api.Instr{Op: api.ORoot, A: 1}, "root r1"}, {api.Instr{Op: api.ONew, A: 1, B: 16, C: 65535}, "new r1 16 65535"},
	{api.Instr{Op: api.OFree, A: 1}, "free r1"}, {api.Instr{Op: api.OGet, A: 1, B: 2, C: 15}, "get r1 r2 15"}, {api.Instr{Op: api.OSet, A: 1, B: 15, C: 3}, "set r1 15 r3"},
	{api.Instr{Op: api.OBegin}, "begin"}, {api.Instr{Op: api.OElse}, "else"}, {api.Instr{Op: api.OEnd}, "end"}, {api.Instr{Op: api.ORetry}, "retry"},
	{api.Instr{Op: api.OEmit, A: 5}, "emit r5"}, {halt, "halt"},
}

func TestLine(t *testing.T) { // P13.1, P13.6
	for _, c := range all {
		s, e := asm.Line(c.i)
		if s != c.line || e != api.OK {
			t.Error(c, s, e)
		}
		if c.i.Op == api.OJump || c.i.Op == api.OJumpZ {
			continue
		}
		if p, e := asm.Print([]api.Instr{c.i}); p != s+"\n" || e != api.OK {
			t.Error(c, p, e)
		}
		if p, line, e := asm.Parse(s + "\n"); e != api.OK || line != 0 || len(p) != 1 || p[0] != c.i {
			t.Error(c, p, line, e)
		}
	}
	for _, i := range []api.Instr{{}, {Op: 21}, {Op: api.OHalt, A: 1}, {Op: api.OJump, A: 513}} {
		if s, e := asm.Line(i); s != "" || e != api.ErrInstr {
			t.Error(i, s, e)
		}
	}
}

func TestPrint(t *testing.T) { // P13.1
	p := []api.Instr{{Op: api.OJumpZ, A: 1, B: 0}, {Op: api.OJump, A: 3}, {Op: api.OJump, A: 3}}
	if s, e := asm.Print(p); s != ":L0\njumpz r1 @L0\njump @L3\njump @L3\n:L3\n" || e != api.OK {
		t.Error(s, e)
	}
	if s, e := asm.Print(nil); s != "" || e != api.OK {
		t.Error(s, e)
	}
	p[0].B = 4
	if s, e := asm.Print(p); s != "" || e != api.ErrAsm {
		t.Error(s, e)
	}
	if s, e := asm.Print([]api.Instr{halt, {}}); s != "" || e != api.ErrAsm {
		t.Error(s, e)
	}
	many := make([]api.Instr, 513)
	if s, e := asm.Print(many); s != "" || e != api.ErrMany {
		t.Error(s, e)
	}
	for i := range many {
		many[i] = halt
	}
	if s, e := asm.Print(many[:512]); len(s) != 5*512 || e != api.OK {
		t.Error(len(s), e)
	}
}

func TestParse(t *testing.T) { // P13.2, P13.3, P13.5
	p, line, e := asm.Parse(":again\njumpz r1 @again\nhalt\n")
	if e != api.OK || line != 0 || !reflect.DeepEqual(p, []api.Instr{{Op: api.OJumpZ, A: 1}, halt}) {
		t.Error(p, line, e)
	}
	long := strings.Repeat("x", 32)
	p, line, e = asm.Parse("# a remark\n\n:A_9\n:" + long + "\njump @end\n#:end\n:0\njump @A_9\njump @" + long + "\njump @0\n\n:end\n")
	if e != api.OK || line != 0 || !reflect.DeepEqual(p, []api.Instr{{Op: api.OJump, A: 4}, {Op: api.OJump}, {Op: api.OJump}, {Op: api.OJump, A: 1}}) {
		t.Error(p, line, e)
	}
	if l, e := asm.Labels(":azAZ09_\njump @azAZ09_\n"); e != api.OK || len(l) != 1 {
		t.Error(l, e)
	}
	l, e := asm.Labels("# a remark\n:b\nhalt\n:a\n:c\n")
	if e != api.OK || !reflect.DeepEqual(l, []string{"b", "a", "c"}) {
		t.Error(l, e)
	}
	if p, line, e := asm.Parse(""); len(p) != 0 || line != 0 || e != api.OK {
		t.Error(p, line, e)
	}
}

func TestWrongLines(t *testing.T) { // P13.2, P13.3
	halts := strings.Repeat("halt\n", 512)
	for _, c := range []struct {
		s    string
		line int
	}{
		{"halt", 1}, {"halt\nhalt", 2}, {"# x", 1}, {"halt \n", 1}, {" halt\n", 1}, {"Halt\n", 1}, {"halt r1\n", 1}, {"halt\r\n", 1}, {"nop\n", 1}, {"\n\t\n", 2}, {"halt#\n", 1},
		{":\n", 1}, {": a\n", 1}, {":a b\n", 1}, {":a-b\n", 1}, {":\xc3\xa9\n", 1}, {":`\n", 1}, {":{\n", 1}, {":@\n", 1}, {":[\n", 1}, {":/\n", 1}, {"::\n", 1}, {":^\n", 1}, {":" + strings.Repeat("x", 33) + "\n", 1}, {":a\n:b\n:a\n", 3},
		{"nil\n", 1}, {"nil r8\n", 1}, {"nil r-1\n", 1}, {"nil r01\n", 1}, {"nil r\n", 1}, {"nil 1\n", 1}, {"nil R1\n", 1}, {"nil  r1\n", 1}, {"nil r1 \n", 1}, {"nil r1 r2\n", 1},
		{"const r1 01\n", 1}, {"const r1 -0\n", 1}, {"const r1 +1\n", 1}, {"const r1 \n", 1}, {"const r1 -\n", 1}, {"const r1 1_0\n", 1}, {"const r1 0x1\n", 1}, {"const r1 12345678901234\n", 1}, {"const r1 r2\n", 1}, {"const r1 @a\n:a\n", 1},
		{"jump a\n:a\n", 1}, {"jump @\n", 1}, {"jump 0\n", 1}, {"jump @a-b\n", 1}, {"jump @" + strings.Repeat("x", 33) + "\n", 1}, {"jump @a b\n:a\n", 1}, {"jump aa\n:a\n", 1}, {"jump xa\n:a\n", 1}, {"jump @a\nconst r1 12345678901234\n", 2}, {"jump @a\nconst r1 1234567890123\n", 1}, {"jump @a\nconst r1 -12345678901234\n", 2}, {"jump @a\nconst r1 -1234567890123\n", 1},
		{halts + "halt\n", 513}, {halts + "#\n\n:a\nnil r1\n", 516},
		// found behind those: in order
		{"halt\njump @a\n", 2}, {"jump @a\nbad\n", 2}, {"jump @a\n:b\nhalt\n", 1}, {"const r1 9999999999999\n", 1}, {"const r1 -1099511627777\n", 1}, {"get r1 r2 16\n", 1}, {"set r1 -1 r2\n", 1}, {"new r1 0 0\n", 1}, {"new r1 2 4\n", 1}, {"#\nnew r1 17 0\njump @x\n", 2}, {"#\njump @x\nnew r1 17 0\n", 2}, {"get r1 r2 16\nhalt", 2},
	} {
		if p, line, e := asm.Parse(c.s); p != nil || line != c.line || e != api.ErrAsm {
			t.Errorf("%q: %v %d %d", c.s[max(0, len(c.s)-60):], p, line, e)
		}
		if l, e := asm.Labels(c.s); l != nil || e != api.ErrAsm {
			t.Errorf("%q: %v %d", c.s, l, e)
		}
	}
	if p, line, e := asm.Parse(halts + ":a\n#\n"); len(p) != 512 || line != 0 || e != api.OK {
		t.Error(len(p), line, e)
	}
	full := strings.Repeat("#\n", 1<<17)
	if p, line, e := asm.Parse(full); len(p) != 0 || line != 0 || e != api.OK {
		t.Error(line, e)
	}
	if p, line, e := asm.Parse(full + "\n"); p != nil || line != 0 || e != api.ErrLong {
		t.Error(line, e)
	}
	if l, e := asm.Labels(full + "\n"); l != nil || e != api.ErrLong {
		t.Error(e)
	}
}

func TestThereAndBack(t *testing.T) { // P13.4, P13.5
	r := rand.New(rand.NewSource(9))
	for range 300 {
		var p []api.Instr
		n := r.Intn(30)
		for range n {
			i := all[r.Intn(len(all))].i
			if i.Op == api.OJump {
				i.A = r.Intn(n + 1)
			} else if i.Op == api.OJumpZ {
				i.B = r.Intn(n + 1)
			}
			p = append(p, i)
		}
		s, e := asm.Print(p)
		if e != api.OK {
			t.Fatal(p, e)
		}
		for _, text := range []string{s, "# x\n\n" + strings.ReplaceAll(s, "\n", "\n\n#jump @nowhere\n")} {
			if q, line, e := asm.Parse(text); e != api.OK || line != 0 || !prog.Same(p, q) {
				t.Fatal(s, line, e)
			}
		}
	}
}
