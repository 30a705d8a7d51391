package value_test

import (
	"math"
	"testing"

	"gantlet/api"
	"gantlet/value"
)

func ref(n int) api.Val { return api.Val{K: api.Ref, N: n} }

// P1.1
func TestMakeAndCheck(t *testing.T) {
	if value.Number(-7) != (api.Val{K: api.Int, N: -7}) || value.Nil() != (api.Val{K: api.Ref}) {
		t.Error("Number or Nil")
	}
	for _, c := range []struct{ gen, addr, n int }{
		{3, 5, 3145733}, {1, 1, 1<<20 + 1}, {1, api.MaxAddr, 1<<21 - 1},
		{api.MaxGen, 1, 1<<50 + 1}, {api.MaxGen, api.MaxAddr, 1<<50 + 1<<20 - 1},
	} {
		if v, e := value.Of(c.gen, c.addr); e != api.OK || v != ref(c.n) {
			t.Error("Of", c, v, e)
		}
	}
	for _, c := range [][2]int{{0, 1}, {-1, 1}, {api.MaxGen + 1, 1}, {1, 0}, {1, -1}, {1, api.MaxAddr + 1}, {math.MinInt, math.MaxInt}} {
		if v, e := value.Of(c[0], c[1]); e != api.ErrArg || v != (api.Val{}) {
			t.Error("Of", c, v, e)
		}
	}
	for _, v := range []api.Val{value.Nil(), value.Number(0), value.Number(math.MinInt), ref(1<<20 + 1), ref(1<<50 + 1<<20 - 1)} {
		if value.Check(v) != api.OK {
			t.Error("Check", v)
		}
	}
	for _, v := range []api.Val{{}, {K: 3, N: 1}, {K: -1}, ref(1), ref(1<<20 - 1), ref(1 << 20), ref(2 << 20), ref(-1), ref(-(1<<20 + 1)), ref(1<<50 + 1<<20), ref(1<<50 + 1<<20 + 1), ref(math.MaxInt), ref(math.MinInt)} {
		if value.Check(v) != api.ErrKind {
			t.Error("Check", v)
		}
	}
}

// P1.2
func TestParts(t *testing.T) {
	v, _ := value.Of(9, 4)
	if value.Gen(v) != 9 || value.Addr(v) != 4 || value.IsNil(v) {
		t.Error(v)
	}
	for _, v := range []api.Val{{}, value.Nil(), value.Number(3145733), ref(5), ref(2 << 20), ref(1<<50 + 1<<20 + 1), ref(-3145733), {K: 7, N: 3145733}} {
		if value.Gen(v) != 0 || value.Addr(v) != 0 {
			t.Error(v, value.Gen(v), value.Addr(v))
		}
	}
	if !value.IsNil(value.Nil()) || value.IsNil(value.Number(0)) || value.IsNil(api.Val{}) || value.IsNil(ref(1)) {
		t.Error("IsNil")
	}
}

// P1.3
func TestSums(t *testing.T) {
	num := value.Number
	for _, c := range []struct{ a, b, sum, sub, less int }{
		{5, 7, 12, -2, 1}, {7, 5, 12, 2, 0}, {4, 4, 8, 0, 0},
		{math.MaxInt, 1, math.MinInt, math.MaxInt - 1, 0},
		{math.MinInt, 1, math.MinInt + 1, math.MaxInt, 1},
		{0, math.MinInt, math.MinInt, math.MinInt, 0},
	} {
		if v, e := value.Add(num(c.a), num(c.b)); e != api.OK || v != num(c.sum) {
			t.Error("Add", c, v, e)
		}
		if v, e := value.Sub(num(c.a), num(c.b)); e != api.OK || v != num(c.sub) {
			t.Error("Sub", c, v, e)
		}
		if v, e := value.Less(num(c.a), num(c.b)); e != api.OK || v != num(c.less) {
			t.Error("Less", c, v, e)
		}
	}
	for _, p := range [][2]api.Val{{num(1), value.Nil()}, {value.Nil(), num(1)}, {{}, num(1)}, {num(1), {K: 3}}, {value.Nil(), value.Nil()}} {
		for _, f := range []func(a, b api.Val) (api.Val, api.Errno){value.Add, value.Sub, value.Less} {
			if v, e := f(p[0], p[1]); e != api.ErrKind || v != (api.Val{}) {
				t.Error(p, v, e)
			}
		}
	}
}

// P1.4
func TestSame(t *testing.T) {
	one, none := value.Number(1), value.Number(0)
	for _, c := range []struct {
		a, b, want api.Val
	}{
		{one, one, one}, {one, none, none}, {none, value.Nil(), none}, {value.Nil(), value.Nil(), one},
		{api.Val{}, api.Val{}, one}, {api.Val{K: 3, N: 2}, api.Val{K: 3, N: 2}, one}, {api.Val{K: 3, N: 2}, api.Val{K: 4, N: 2}, none},
	} {
		if value.Equal(c.a, c.b) != c.want {
			t.Error("Equal", c)
		}
	}
	if !value.Zero(none) || !value.Zero(value.Nil()) || value.Zero(one) || value.Zero(api.Val{}) || value.Zero(ref(1<<20+1)) {
		t.Error("Zero")
	}
	row := []api.Val{one, none, value.Nil()}
	if !value.Same(nil, []api.Val{}) || !value.Same(row, []api.Val{one, none, value.Nil()}) {
		t.Error("Same: they are")
	}
	for _, o := range [][]api.Val{nil, row[:2], {one, none, none}, {one, none, value.Nil(), one}, {none, none, value.Nil()}} {
		if value.Same(row, o) || value.Same(o, row) {
			t.Error("Same: they are not", o)
		}
	}
}

// P1.5
func TestThereAndBack(t *testing.T) {
	for _, gen := range []int{1, 2, 77, 1 << 29, api.MaxGen - 1, api.MaxGen} {
		for _, addr := range []int{1, 2, 1 << 10, 1<<19 + 3, api.MaxAddr - 1, api.MaxAddr} {
			v, e := value.Of(gen, addr)
			if e != api.OK || value.Check(v) != api.OK || value.Gen(v) != gen || value.Addr(v) != addr {
				t.Error(gen, addr, v, e)
			}
			if w, _ := value.Of(value.Gen(v), value.Addr(v)); w != v {
				t.Error(v, w)
			}
		}
	}
}

// P1.6 and P1.7
func TestRingsAndOrder(t *testing.T) {
	row := []int{math.MinInt, math.MinInt + 1, -5, -1, 0, 1, 2, 1 << 40, math.MaxInt - 1, math.MaxInt}
	for i, a := range row {
		for j, b := range row {
			x, y := value.Number(a), value.Number(b)
			sum, _ := value.Add(x, y)
			if back, _ := value.Sub(sum, y); back != x {
				t.Error("ring", a, b, back)
			}
			less, _ := value.Less(x, y)
			if (less.N == 1) != (i < j) || (value.Equal(x, y).N == 1) != (i == j) {
				t.Error("order", a, b)
			}
		}
	}
}
