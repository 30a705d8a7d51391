package held_test

import (
	"math/rand"
	"reflect"
	"testing"

	"gantlet/api"
	"gantlet/held"
)

const top = 2 * api.MaxClock

func seen(o, v int) api.Seen { return api.Seen{Orec: o, Version: v} }

func TestAddHas(t *testing.T) { // P8.1
	h := held.New()
	for _, c := range []struct {
		orec, version int
		e             api.Errno
	}{
		{-1, 0, api.ErrArg}, {1024, 0, api.ErrArg}, {1, -1, api.ErrArg}, {1, top + 1, api.ErrArg},
		{5, 3, api.OK}, {5, 3, api.ErrHeld}, {5, 9, api.ErrHeld}, {5, -1, api.ErrArg}, {0, top, api.OK}, {1023, 0, api.OK},
	} {
		if e := h.Add(c.orec, c.version); e != c.e {
			t.Error(c, e)
		}
	}
	for _, c := range []struct {
		orec, version int
		ok            bool
	}{{5, 3, true}, {0, top, true}, {1023, 0, true}, {1, 0, false}, {-1, 0, false}, {1024, 0, false}} {
		if v, ok := h.Has(c.orec); v != c.version || ok != c.ok {
			t.Error(c, v, ok)
		}
	}
}

func TestAllRecords(t *testing.T) { // as many as there are
	h := held.New()
	for i := range api.MaxOrecs {
		if e := h.Add(i, i); e != api.OK {
			t.Fatal(i, e)
		}
	}
	for i := range api.MaxOrecs {
		if v, ok := h.Has(i); v != i || !ok {
			t.Fatal(i, v, ok)
		}
	}
}

func TestTake(t *testing.T) { // P8.2, P8.3, P8.4
	h := held.New()
	if e, ok := h.Last(); ok || e != (api.Seen{}) {
		t.Error(e)
	}
	if e, ok := h.Take(); ok || e != (api.Seen{}) {
		t.Error(e)
	}
	h.Add(5, 3)
	h.Add(6, 4)
	for range 2 {
		if e, ok := h.Last(); !ok || e != seen(6, 4) || h.Len() != 2 {
			t.Error(e)
		}
	}
	if e, ok := h.Take(); !ok || e != seen(6, 4) || h.Len() != 1 {
		t.Error(e)
	}
	if _, ok := h.Has(6); ok || h.Add(6, 8) != api.OK {
		t.Error("what was taken may be added again")
	}
	h.Take()
	if e, ok := h.Take(); !ok || e != seen(5, 3) {
		t.Error(e)
	}
	if _, ok := h.Take(); ok || h.Len() != 0 {
		t.Error("none is left")
	}
}

func TestAllClearFork(t *testing.T) { // P8.2
	h := held.New()
	h.Add(5, 3)
	h.Add(6, 4)
	want := []api.Seen{seen(5, 3), seen(6, 4)}
	h.All()[0] = api.Seen{}
	if !reflect.DeepEqual(h.All(), want) {
		t.Error(h.All())
	}
	f := h.Fork()
	if !reflect.DeepEqual(f.All(), want) {
		t.Error(f.All())
	}
	f.Take()
	f.Add(7, 7)
	if !reflect.DeepEqual(h.All(), want) || f.Len() != 2 {
		t.Error("a fork, and what it is of, are one")
	}
	h.Clear()
	if _, ok := h.Has(5); ok || h.Len() != 0 || len(h.All()) != 0 || f.Len() != 2 || h.Add(5, 1) != api.OK {
		t.Error("Clear")
	}
}

func TestNobodyMadeIt(t *testing.T) { // P8.2
	for _, h := range []*held.Held{nil, {}} {
		h.Clear()
		if h.Add(1, 1) != api.ErrNil || h.Add(-1, 1) != api.ErrNil || h.All() != nil || h.Len() != 0 || h.Fork() != nil {
			t.Error("zeros")
		}
		if v, ok := h.Has(1); ok || v != 0 {
			t.Error(v)
		}
		if e, ok := h.Last(); ok || e != (api.Seen{}) {
			t.Error(e)
		}
		if e, ok := h.Take(); ok || e != (api.Seen{}) {
			t.Error(e)
		}
	}
}

// P8.3, P8.4
func TestRandomly(t *testing.T) {
	r := rand.New(rand.NewSource(6))
	h := held.New()
	var want []api.Seen
	for range 2000 {
		if r.Intn(3) == 0 {
			e, ok := h.Take()
			if ok != (len(want) > 0) || ok && e != want[len(want)-1] {
				t.Fatal(e, ok, want)
			}
			want = want[:max(0, len(want)-1)]
			continue
		}
		s, e := seen(r.Intn(9), r.Intn(9)), api.OK
		for _, w := range want {
			if w.Orec == s.Orec {
				e = api.ErrHeld
			}
		}
		if got := h.Add(s.Orec, s.Version); got != e {
			t.Fatal(got, e)
		}
		if e == api.OK {
			want = append(want, s)
		}
		if h.Len() != len(want) {
			t.Fatal(h.All(), want)
		}
	}
}
