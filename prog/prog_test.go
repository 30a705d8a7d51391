package prog_test

import (
	"bytes"
	"math/rand"
	"reflect"
	"testing"

	"gantlet/api"
	"gantlet/instr"
	"gantlet/prog"
)

var halt = api.Instr{Op: api.OHalt}

func jump(to int) api.Instr { return api.Instr{Op: api.OJump, A: to} }

func jumpz(to int) api.Instr { return api.Instr{Op: api.OJumpZ, A: 3, B: to} }

var some = []api.Instr{{Op: api.OConst, A: 1, B: -5}, {Op: api.ONew, A: 2, B: 3, C: 5}, jumpz(4), {Op: api.OSet, A: 2, B: 1, C: 1}, jump(500), halt}

func halts(n int) []api.Instr {
	p := make([]api.Instr, n)
	for i := range p {
		p[i] = halt
	}
	return p
}

func summed(b ...byte) []byte {
	total := byte(0)
	for _, x := range b {
		total += x
	}
	return append(b, total)
}

func TestEncode(t *testing.T) { // P11.1
	for _, c := range []struct {
		p []api.Instr
		b []byte
	}{
		{nil, []byte{71, 78, 84, 1, 0, 0, 234}},
		{[]api.Instr{halt}, []byte{71, 78, 84, 1, 0, 1, 20, 255}},
		{[]api.Instr{halt, jump(257)}, summed(71, 78, 84, 1, 0, 2, 20, 8, 1, 1)},
	} {
		if b, e := prog.Encode(c.p); e != api.OK || !bytes.Equal(b, c.b) {
			t.Error(c, b, e)
		}
	}
	if b, e := prog.Encode(halts(512)); e != api.OK || len(b) != 519 || b[4] != 2 || b[5] != 0 {
		t.Error(len(b), e)
	}
	if b, e := prog.Encode(append(halts(512), api.Instr{})); e != api.ErrMany || b != nil {
		t.Error(e)
	}
	if b, e := prog.Encode([]api.Instr{halt, {}}); e != api.ErrProg || b != nil {
		t.Error(e)
	}
}

func TestDecode(t *testing.T) { // P11.1, P11.3
	for _, p := range [][]api.Instr{nil, {halt}, some, halts(512)} {
		b, _ := prog.Encode(p)
		if q, e := prog.Decode(b); e != api.OK || !prog.Same(p, q) {
			t.Error(p, q, e)
		}
	}
	for n := range 7 {
		if p, e := prog.Decode(make([]byte, n)); e != api.ErrShort || p != nil {
			t.Error(n, e)
		}
	}
	for _, b := range [][]byte{
		summed(70, 78, 84, 1, 0, 0), summed(71, 78, 84, 2, 0, 0), {71, 78, 84, 1, 0, 0, 235},
		summed(71, 78, 84, 1, 0, 1), summed(71, 78, 84, 1, 0, 1, 20, 20), summed(71, 78, 84, 1, 0, 2, 20),
		summed(71, 78, 84, 1, 0, 1, 21), summed(71, 78, 84, 1, 0, 1, 3, 8, 0), summed(71, 78, 84, 1, 0, 1, 8, 2),
		summed(append([]byte{71, 78, 84, 1, 2, 1}, bytes.Repeat([]byte{20}, 513)...)...),
		{71, 78, 84, 1, 0, 1, 20, 255, 0},
	} {
		if p, e := prog.Decode(b); e != api.ErrProg || p != nil {
			t.Error(b, p, e)
		}
	}
}

func TestASum(t *testing.T) { // P11.5
	b, _ := prog.Encode(some)
	for at := range len(b) - 1 {
		for turn := 1; turn < 256; turn++ {
			c := bytes.Clone(b)
			c[at] ^= byte(turn)
			if p, e := prog.Decode(c); e != api.ErrProg || p != nil {
				t.Fatal(at, turn, p, e)
			}
		}
	}
}

func TestBackFromBytes(t *testing.T) { // P11.3
	r := rand.New(rand.NewSource(7))
	for range 20000 {
		b := []byte{71, 78, 84, 1, 0, byte(r.Intn(3))}
		for range r.Intn(8) {
			b = append(b, byte(r.Intn(22)))
		}
		b = summed(b...)
		p, e := prog.Decode(b)
		if e != api.OK {
			continue
		}
		if back, e := prog.Encode(p); e != api.OK || !bytes.Equal(back, b) {
			t.Fatal(b, p, back)
		}
	}
}

func TestLink(t *testing.T) { // P11.2, P11.4
	a := []api.Instr{jump(2), jumpz(0)}
	b := []api.Instr{halt, jump(3), jumpz(1)}
	got, e := prog.Link(a, nil, b, a)
	want := []api.Instr{jump(2), jumpz(0), halt, jump(5), jumpz(3), jump(7), jumpz(5)}
	if e != api.OK || !reflect.DeepEqual(got, want) {
		t.Error(got, e)
	}
	if a[0] != jump(2) || b[1] != jump(3) {
		t.Error("what is handed in is not changed")
	}
	if p, e := prog.Link(); e != api.OK || len(p) != 0 {
		t.Error(p, e)
	}
	for _, c := range []struct {
		parts [][]api.Instr
		e     api.Errno
	}{
		{[][]api.Instr{halts(256), halts(256)}, api.OK}, {[][]api.Instr{halts(256), halts(257)}, api.ErrMany},
		{[][]api.Instr{halts(512), {{}}}, api.ErrMany}, {[][]api.Instr{{halt}, {{}}}, api.ErrProg},
		{[][]api.Instr{{jump(1)}}, api.OK}, {[][]api.Instr{{halt}, {jump(2)}}, api.ErrProg}, {[][]api.Instr{{jumpz(2)}, {halt}}, api.ErrProg}, {[][]api.Instr{{jump(-1)}}, api.ErrProg},
	} {
		if p, e := prog.Link(c.parts...); e != c.e || e != api.OK && p != nil {
			t.Error(len(p), e, c.e)
		}
	}
	for at, i := range some { // all but a jump's place stays
		part := append([]api.Instr{instr.Aim(i, 0)}, halts(3)...)
		p, e := prog.Link(halts(5), part)
		if e != api.OK || p[5] != instr.Aim(i, 5) {
			t.Error(at, p, e)
		}
	}
}

func TestSame(t *testing.T) { // P11.2
	if !prog.Same(nil, []api.Instr{}) || !prog.Same(some, append([]api.Instr{}, some...)) {
		t.Error("they are")
	}
	other := append([]api.Instr{}, some...)
	other[3].C++
	for _, p := range [][]api.Instr{nil, some[:5], other, append(append([]api.Instr{}, some...), halt)} {
		if prog.Same(some, p) || prog.Same(p, some) {
			t.Error("they are not", p)
		}
	}
}
