package orec_test

import (
	"math"
	"math/rand"
	"reflect"
	"testing"

	"gantlet/api"
	"gantlet/orec"
	"gantlet/value"
)

const top = 2 * api.MaxClock

func version(n int) api.Orec { return api.Orec{K: api.Version, N: n} }

func owned(n int) api.Orec { return api.Orec{K: api.Owned, N: n} }

func anon(n int) api.Orec { return api.Orec{K: api.Anon, N: n} }

var wrong = []api.Orec{{K: 3}, {K: -1}, version(-1), version(top + 1), owned(-1), owned(64), anon(-1), anon(64), {I: -1}, {K: api.Owned, N: 3, I: -1}, version(math.MaxInt), version(math.MinInt)}

func TestCheckWordRead(t *testing.T) { // P3.1, P3.5
	for _, c := range []struct {
		o api.Orec
		w int
	}{{version(0), 0}, {version(1), 4}, {version(top), 4 * top}, {owned(0), 1}, {owned(3), 13}, {owned(63), 253}, {anon(0), 2}, {anon(63), 254}} {
		for _, i := range []int{0, 1, math.MaxInt} {
			o := c.o
			o.I = i
			if orec.Check(o) != api.OK {
				t.Error("Check", o)
			}
			if w, e := orec.Word(o); w != c.w || e != api.OK {
				t.Error("Word", o, w, e)
			}
		}
		if o, e := orec.Read(c.w); o != c.o || e != api.OK {
			t.Error("Read", c, o, e)
		}
	}
	for _, o := range wrong {
		if orec.Check(o) != api.ErrOrec {
			t.Error("Check", o)
		}
		if w, e := orec.Word(o); w != 0 || e != api.ErrOrec {
			t.Error("Word", o, w, e)
		}
	}
	for _, w := range []int{-1, -3, -4, 3, 7, 4*64 + 1, 4*64 + 2, 4*top + 1, 4*top + 3, 4*top + 4, math.MaxInt, math.MinInt} {
		if o, e := orec.Read(w); o != (api.Orec{}) || e != api.ErrOrec {
			t.Error("Read", w, o, e)
		}
	}
	for w := range 600 {
		if o, e := orec.Read(w); e == api.OK {
			if back, _ := orec.Word(o); back != w {
				t.Error(w, o, back)
			}
		}
	}
}

func table(t *testing.T, size int) *orec.Table {
	t.Helper()
	x, e := orec.New(size)
	if x == nil || e != api.OK {
		t.Fatal(size, e)
	}
	return x
}

func TestNew(t *testing.T) { // P3.2, P3.5
	for _, size := range []int{-1, 0, 1025} {
		if x, e := orec.New(size); x != nil || e != api.ErrOrec {
			t.Error(size, e)
		}
	}
	table(t, 1)
	x := table(t, 1024)
	if x.Size() != 1024 || len(x.All()) != 1024 {
		t.Error(x.Size())
	}
	for i, o := range x.All() {
		if o != (api.Orec{}) || x.At(i) != o {
			t.Fatal(i, o)
		}
	}
	x = table(t, 10)
	a, _ := value.Of(5, 27)
	b, _ := value.Of(6, 10)
	for v, want := range map[api.Val]int{a: 7, b: 0, value.Nil(): 0, value.Number(27): 0, {K: api.Ref, N: 27}: 0} {
		if x.Index(v) != want {
			t.Error(v, x.Index(v))
		}
	}
}

func TestTakeLet(t *testing.T) { // P3.2, P3.3, P3.6
	x := table(t, 4)
	for _, c := range []struct {
		i, v int
		by   api.Orec
	}{{-1, 0, owned(1)}, {4, 0, owned(1)}, {1, 1, owned(1)}, {1, -1, owned(1)}, {1, 0, version(0)}, {1, 0, version(5)}, {1, 0, owned(64)}, {1, 0, anon(-1)}, {1, 0, api.Orec{K: 3, N: 1}}, {1, 0, api.Orec{K: api.Owned, N: 1, I: -1}}} {
		if x.Take(c.i, c.v, c.by) {
			t.Error(c)
		}
	}
	if !reflect.DeepEqual(x.All(), make([]api.Orec, 4)) {
		t.Error(x.All())
	}
	if e := x.Let(1, 5); e != api.ErrOrec { // nobody has it
		t.Error(e)
	}
	if !x.Take(1, 0, api.Orec{K: api.Owned, N: 3, I: 99}) || x.At(1) != (api.Orec{K: api.Owned, N: 3, I: 1}) {
		t.Error(x.At(1))
	}
	if x.Take(1, 0, owned(3)) || x.Take(1, 0, anon(2)) || x.Take(1, 3, owned(2)) || x.At(1).I != 1 {
		t.Error("taken twice", x.At(1))
	}
	for _, i := range []int{-1, 4} {
		if e := x.Let(i, 5); e != api.ErrRange {
			t.Error(i, e)
		}
		if x.At(i) != (api.Orec{}) {
			t.Error(i)
		}
	}
	for _, v := range []int{-1, top + 1} {
		if e := x.Let(1, v); e != api.ErrOrec || x.At(1).K != api.Owned {
			t.Error(v, e)
		}
	}
	if e := x.Let(1, top); e != api.OK || x.At(1) != (api.Orec{N: top, I: 1}) {
		t.Error(e, x.At(1))
	}
	if x.Take(1, 0, anon(5)) || !x.Take(1, top, anon(5)) || x.At(1) != (api.Orec{K: api.Anon, N: 5, I: 2}) {
		t.Error(x.At(1))
	}
	if e := x.Let(1, 0); e != api.OK || x.At(1) != (api.Orec{I: 2}) || x.Let(1, 0) != api.ErrOrec {
		t.Error(e, x.At(1))
	}
}

func TestOfAllFork(t *testing.T) { // P3.4, P3.7
	x := table(t, 6)
	x.Take(4, 0, owned(2))
	x.Take(1, 0, anon(2))
	x.Take(2, 0, owned(0))
	x.Take(5, 0, owned(2))
	x.Let(5, 2)
	if !reflect.DeepEqual(x.Of(2), []int{1, 4}) || !reflect.DeepEqual(x.Of(0), []int{2}) || len(x.Of(1)) != 0 || len(x.Of(-1)) != 0 || len(x.Of(64)) != 0 {
		t.Error(x.Of(2), x.Of(0), x.Of(1))
	}
	want := []api.Orec{{}, {K: api.Anon, N: 2, I: 1}, {K: api.Owned, I: 1}, {}, {K: api.Owned, N: 2, I: 1}, {N: 2, I: 1}}
	if !reflect.DeepEqual(x.All(), want) {
		t.Error(x.All())
	}
	x.All()[0].N = 9
	f := x.Fork()
	if !reflect.DeepEqual(f.All(), want) || f.Size() != 6 {
		t.Error(f.All())
	}
	f.Let(4, 8)
	f.Take(0, 0, owned(1))
	x.Let(1, 3)
	if x.At(4).K != api.Owned || x.At(0).I != 0 || f.At(1).K != api.Anon {
		t.Error("a fork, and what it is of, are one")
	}
}

func TestNobodyMadeIt(t *testing.T) {
	for _, x := range []*orec.Table{nil, {}} {
		if x.Size() != 0 || x.Index(api.Val{K: api.Ref, N: 1<<20 + 5}) != 0 || x.At(0) != (api.Orec{}) || x.Take(0, 0, owned(1)) || x.Let(0, 0) != api.ErrNil || x.Of(0) != nil || x.All() != nil || x.Fork() != nil {
			t.Error("zeros")
		}
	}
}

// P3.5, P3.6: whoever has a record has it till it is let go; between two looks that tell the same version, with the same I, nobody had it.
func TestRandomly(t *testing.T) {
	r := rand.New(rand.NewSource(2))
	x := table(t, 3)
	var has [3]api.Orec
	for range 3000 {
		i, v := r.Intn(3), r.Intn(3)
		if r.Intn(2) == 0 {
			by := api.Orec{K: api.OrecKind(1 + r.Intn(2)), N: r.Intn(3)}
			if x.Take(i, v, by) != (has[i].K == api.Version && has[i].N == v) {
				t.Fatal("Take", i, v, has[i])
			}
			if has[i].K == api.Version && has[i].N == v {
				has[i] = api.Orec{K: by.K, N: by.N, I: has[i].I + 1}
			}
		} else if (x.Let(i, v) == api.OK) != (has[i].K != api.Version) {
			t.Fatal("Let", i, v, has[i])
		} else if has[i].K != api.Version {
			has[i] = api.Orec{N: v, I: has[i].I}
		}
		if x.At(i) != has[i] {
			t.Fatal(x.At(i), has[i])
		}
	}
}
