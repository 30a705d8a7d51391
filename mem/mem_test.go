package mem_test

import (
	"math/rand"
	"testing"

	"gantlet/api"
	"gantlet/mem"
)

func conf() api.Conf {
	return api.Conf{Words: 40, Orecs: 4, Reads: 5, Undo: 6, Clock: 7, Manager: api.Greedy}
}

func made(t *testing.T, c api.Conf, threads int) *mem.Mem {
	t.Helper()
	m, e := mem.New(c, threads)
	if e != api.OK || m == nil {
		t.Fatal(c, threads, e)
	}
	return m
}

func TestCheckNew(t *testing.T) { // P15.1
	turns := []struct {
		turn func(c *api.Conf)
		e    api.Errno
	}{
		{func(c *api.Conf) {}, api.OK},
		{func(c *api.Conf) { c.Words = 16 }, api.ErrMem}, {func(c *api.Conf) { c.Words = 17 }, api.OK}, {func(c *api.Conf) { c.Words = 1 << 16 }, api.OK}, {func(c *api.Conf) { c.Words = 1<<16 + 1 }, api.ErrMem},
		{func(c *api.Conf) { c.Orecs = 0 }, api.ErrMem}, {func(c *api.Conf) { c.Orecs = 1 }, api.OK}, {func(c *api.Conf) { c.Orecs = 1024 }, api.OK}, {func(c *api.Conf) { c.Orecs = 1025 }, api.ErrMem},
		{func(c *api.Conf) { c.Reads = 0 }, api.ErrMem}, {func(c *api.Conf) { c.Reads = 1 }, api.OK}, {func(c *api.Conf) { c.Reads = 4096 }, api.OK}, {func(c *api.Conf) { c.Reads = 4097 }, api.ErrMem},
		{func(c *api.Conf) { c.Undo = 0 }, api.ErrMem}, {func(c *api.Conf) { c.Undo = 1 }, api.OK}, {func(c *api.Conf) { c.Undo = 4096 }, api.OK}, {func(c *api.Conf) { c.Undo = 4097 }, api.ErrMem},
		{func(c *api.Conf) { c.Clock = 0 }, api.ErrMem}, {func(c *api.Conf) { c.Clock = 1 }, api.OK}, {func(c *api.Conf) { c.Clock = 1 << 40 }, api.OK}, {func(c *api.Conf) { c.Clock = 1<<40 + 1 }, api.ErrMem},
		{func(c *api.Conf) { c.Manager = 0 }, api.ErrMem}, {func(c *api.Conf) { c.Manager = 3 }, api.ErrMem}, {func(c *api.Conf) { c.Tries = -3 }, api.OK},
		{func(c *api.Conf) { c.Manager = api.Polite }, api.ErrMem}, {func(c *api.Conf) { c.Manager, c.Tries = api.Polite, 1000 }, api.OK}, {func(c *api.Conf) { c.Manager, c.Tries = api.Polite, 1001 }, api.ErrMem},
	}
	for i, x := range turns {
		c := conf()
		x.turn(&c)
		if e := mem.Check(c); e != x.e {
			t.Error(i, c, e)
		}
		if m, e := mem.New(c, 1); e != x.e || (m != nil) != (e == api.OK) {
			t.Error(i, c, e)
		}
	}
	for _, n := range []int{-1, 0, 65} {
		if m, e := mem.New(conf(), n); m != nil || e != api.ErrMem {
			t.Error(n, e)
		}
	}
	made(t, conf(), 64)
}

func TestWhatItHas(t *testing.T) { // P15.1, P15.2
	m := made(t, conf(), 3)
	if m.Conf() != conf() || m.Threads() != 3 || m.Heap().Used() != 17 || m.Orecs().Size() != 4 || m.Clock().Left() != 7 || m.Slots().Len() != 3 {
		t.Error("not as it was made")
	}
	if _, e := m.Heap().Alloc(16, 0, 0); e != api.OK {
		t.Error(e)
	}
	if _, e := m.Heap().Alloc(16, 0, 0); e != api.ErrHeap {
		t.Error("its words", e)
	}
	m.Clock().Next()
	m.Slots().Enter(1)
	if m.Heap().Used() != 34 || m.Clock().Now() != 1 || m.Slots().At(1) != 1 {
		t.Error("not these themselves")
	}
	for n := range 3 {
		if m.Stamp(n) != 0 || m.IsFirm(n) || m.IsDoomed(n) {
			t.Error(n)
		}
	}
}

func TestTransactions(t *testing.T) { // P15.3, P15.4, P15.5
	m := made(t, conf(), 2)
	for _, n := range []int{-1, 2, 64} {
		if m.Start(n, 0) != api.ErrRange || m.Firm(n) != api.ErrRange || m.End(n) != api.ErrRange || m.Doom(n) || m.Stamp(n) != 0 || m.IsFirm(n) || m.IsDoomed(n) {
			t.Error(n)
		}
	}
	if m.Start(0, 0) != api.ErrMem || m.Start(0, -1) != api.ErrMem || m.Firm(0) != api.ErrMem || m.End(0) != api.ErrMem || m.Doom(0) || m.IsFirm(0) || m.IsDoomed(0) {
		t.Error("none is under way")
	}
	if m.Start(0, 7) != api.OK || m.Stamp(0) != 7 || m.Start(0, 8) != api.ErrMem || m.Stamp(0) != 7 || m.Stamp(1) != 0 {
		t.Error("Start")
	}
	if !m.Doom(0) || !m.IsDoomed(0) || !m.Doom(0) || m.IsDoomed(1) {
		t.Error("Doom")
	}
	if m.End(0) != api.OK || m.Stamp(0) != 0 || m.IsDoomed(0) {
		t.Error("End")
	}
	m.Start(0, 9)
	if m.IsDoomed(0) || m.IsFirm(0) {
		t.Error("Start: neither firm nor doomed")
	}
	if m.Firm(0) != api.OK || !m.IsFirm(0) || m.Firm(0) != api.OK || m.Doom(0) || m.IsDoomed(0) {
		t.Error("Firm")
	}
	if m.End(0) != api.OK || m.IsFirm(0) {
		t.Error("End of a firm one")
	}
}

func TestVerdict(t *testing.T) { // P15.4
	m := made(t, conf(), 3)
	m.Start(0, 3)
	m.Start(1, 5)
	for _, c := range []struct {
		me, other int
		firm      bool
		want      api.Verdict
	}{{0, 1, false, api.Doom}, {1, 0, false, api.Give}, {0, 1, true, api.Wait}, {2, 0, false, api.Doom}, {0, 2, false, api.Give}, {0, 99, false, api.Give}, {-1, 0, false, api.Doom}} {
		if v := m.Verdict(c.me, c.other, 0, c.firm); v != c.want {
			t.Error(c, v)
		}
	}
	c := conf()
	c.Manager, c.Tries = api.Polite, 2
	p := made(t, c, 2)
	for tried, want := range []api.Verdict{api.Wait, api.Wait, api.Give} {
		if v := p.Verdict(0, 1, tried, true); v != want {
			t.Error(tried, v)
		}
	}
}

func TestFork(t *testing.T) { // P15.4, P15.6
	m := made(t, conf(), 3)
	m.Start(0, 4)
	m.Firm(0)
	m.Start(1, 5)
	m.Doom(1)
	m.Clock().Next()
	m.Clock().Stamp()
	m.Slots().Enter(2)
	a, _ := m.Heap().Alloc(1, 0, 0)
	m.Orecs().Take(1, 0, api.Orec{K: api.Owned, N: 1})
	f := m.Fork()
	if f.Conf() != m.Conf() || f.Threads() != 3 || f.Stamp(0) != 4 || !f.IsFirm(0) || f.Stamp(1) != 5 || !f.IsDoomed(1) || f.Clock().Now() != 1 || f.Clock().Last() != 1 || !f.Slots().In(2) || len(f.Heap().Objects()) != 2 || f.Orecs().At(1).K != api.Owned {
		t.Error("not alike")
	}
	f.End(0)
	f.Start(2, 9)
	f.Clock().Next()
	f.Slots().Leave(2)
	f.Heap().Release(a)
	f.Orecs().Let(1, 3)
	if m.Stamp(0) != 4 || m.Stamp(2) != 0 || m.Clock().Now() != 1 || !m.Slots().In(2) || len(m.Heap().Objects()) != 2 || m.Orecs().At(1).K != api.Owned {
		t.Error("a fork changes what it is of")
	}
	m.End(1)
	m.Clock().Stamp()
	if f.Stamp(1) != 5 || f.Clock().Last() != 1 {
		t.Error("a memory changes its fork")
	}
}

func TestNobodyMadeIt(t *testing.T) {
	for _, m := range []*mem.Mem{nil, {}} {
		if m.Conf() != (api.Conf{}) || m.Threads() != 0 || m.Heap() != nil || m.Orecs() != nil || m.Clock() != nil || m.Slots() != nil || m.Start(0, 1) != api.ErrNil || m.Firm(-1) != api.ErrNil || m.End(0) != api.ErrNil || m.Doom(0) || m.Stamp(0) != 0 || m.IsFirm(0) || m.IsDoomed(0) || m.Verdict(0, 1, 0, true) != 0 || m.Fork() != nil {
			t.Error("zeros")
		}
	}
}

// P15.3, P15.5: who is firm is never doomed till it is over.
func TestRandomly(t *testing.T) {
	r := rand.New(rand.NewSource(11))
	m := made(t, conf(), 3)
	for range 3000 {
		n := r.Intn(3)
		under, firm, doomed := m.Stamp(n) != 0, m.IsFirm(n), m.IsDoomed(n)
		switch r.Intn(4) {
		case 0:
			if (m.Start(n, 1+r.Intn(9)) == api.OK) == under {
				t.Fatal("Start")
			}
		case 1:
			if (m.Firm(n) == api.OK) != under || m.IsFirm(n) != under {
				t.Fatal("Firm")
			}
		case 2:
			if (m.End(n) == api.OK) != under || m.Stamp(n) != 0 || m.IsFirm(n) || m.IsDoomed(n) {
				t.Fatal("End")
			}
		case 3:
			if m.Doom(n) != (under && !firm) || m.IsDoomed(n) != (doomed || under && !firm) {
				t.Fatal("Doom")
			}
		}
	}
}
