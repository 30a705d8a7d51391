package rset_test

import (
	"math/rand"
	"reflect"
	"testing"

	"gantlet/api"
	"gantlet/rset"
)

const top = 2 * api.MaxClock

func set(t *testing.T, most int) *rset.Rset {
	t.Helper()
	s, e := rset.New(most)
	if e != api.OK || s.Len() != 0 || len(s.All()) != 0 {
		t.Fatal(most, e)
	}
	return s
}

func TestNewAdd(t *testing.T) { // P6.1
	for _, most := range []int{-1, 0, api.MaxReads + 1} {
		if s, e := rset.New(most); s != nil || e != api.ErrArg {
			t.Error(most, e)
		}
	}
	set(t, api.MaxReads)
	s := set(t, 2)
	for _, c := range [][2]int{{-1, 0}, {1024, 0}, {0, -1}, {0, top + 1}} {
		if e := s.Add(c[0], c[1]); e != api.ErrArg || s.Len() != 0 {
			t.Error(c, e)
		}
	}
	for i, c := range []struct {
		orec, version int
		e             api.Errno
	}{{5, 3, api.OK}, {5, 9, api.OK}, {1023, top, api.OK}, {6, 0, api.ErrReads}, {5, 1, api.OK}, {6, -1, api.ErrArg}, {5, top + 1, api.ErrArg}} {
		if e := s.Add(c.orec, c.version); e != c.e {
			t.Error(i, c, e)
		}
	}
	if !reflect.DeepEqual(s.All(), []api.Seen{{Orec: 5, Version: 3}, {Orec: 1023, Version: top}}) {
		t.Error(s.All())
	}
}

func TestAsk(t *testing.T) { // P6.2, P6.3
	s := set(t, 4)
	if v, ok := s.Has(5); v != 0 || ok {
		t.Error("empty")
	}
	s.Add(5, 3)
	s.Add(0, 7)
	s.Add(5, 9)
	for _, c := range []struct {
		orec, version int
		ok            bool
	}{{5, 3, true}, {0, 7, true}, {1, 0, false}, {-1, 0, false}, {2000, 0, false}} {
		if v, ok := s.Has(c.orec); v != c.version || ok != c.ok {
			t.Error(c, v, ok)
		}
	}
	for _, c := range []struct {
		at int
		e  api.Seen
		ok bool
	}{{0, api.Seen{Orec: 5, Version: 3}, true}, {1, api.Seen{Orec: 0, Version: 7}, true}, {2, api.Seen{}, false}, {-1, api.Seen{}, false}} {
		if e, ok := s.At(c.at); e != c.e || ok != c.ok {
			t.Error(c, e, ok)
		}
	}
	s.All()[0].Version = 99
	if v, _ := s.Has(5); v != 3 || s.Len() != 2 {
		t.Error("what is told is one's own")
	}
}

func TestClearFork(t *testing.T) { // P6.2
	s := set(t, 2)
	s.Add(5, 3)
	f := s.Fork()
	if v, ok := f.Has(5); v != 3 || !ok || !reflect.DeepEqual(f.All(), s.All()) {
		t.Error(v, ok)
	}
	f.Add(6, 1)
	if f.Add(7, 1) != api.ErrReads || s.Len() != 1 {
		t.Error("a fork has as many at most, and is apart")
	}
	if _, ok := s.Has(6); ok {
		t.Error("apart")
	}
	s.Clear()
	if _, ok := s.Has(5); ok || s.Len() != 0 || len(s.All()) != 0 || f.Len() != 2 {
		t.Error("Clear")
	}
	if s.Add(5, 8) != api.OK || s.Add(4, 8) != api.OK || s.Add(3, 8) != api.ErrReads {
		t.Error("behind Clear")
	}
	if v, ok := s.Has(5); v != 8 || !ok {
		t.Error(v, ok)
	}
	g := set(t, 2) // cleared ahead of the first question
	g.Clear()
	g.Add(1, 1)
	if v, ok := g.Has(1); v != 1 || !ok {
		t.Error(v, ok)
	}
}

func TestNobodyMadeIt(t *testing.T) { // P6.2
	for _, s := range []*rset.Rset{nil, {}} {
		s.Clear()
		if s.Add(1, 1) != api.ErrNil || s.Add(-1, 1) != api.ErrNil || s.All() != nil || s.Len() != 0 || s.Fork() != nil {
			t.Error("zeros")
		}
		if v, ok := s.Has(1); v != 0 || ok {
			t.Error(v)
		}
		if e, ok := s.At(0); e != (api.Seen{}) || ok {
			t.Error(e)
		}
	}
}

// P6.3, P6.4
func TestBounds(t *testing.T) {
	r := rand.New(rand.NewSource(4))
	for range 50 {
		most := 1 + r.Intn(8)
		s := set(t, most)
		first := map[int]int{}
		for range 40 {
			o, v := r.Intn(12), r.Intn(9)
			_, there := first[o]
			want := api.OK
			if !there && len(first) == most {
				want = api.ErrReads
			} else if !there {
				first[o] = v
			}
			if e := s.Add(o, v); e != want {
				t.Fatal(e, want)
			}
			if s.Len() != len(first) {
				t.Fatal(s.Len(), len(first))
			}
			for o, v := range first {
				if w, ok := s.Has(o); w != v || !ok {
					t.Fatal(o, v, w, ok)
				}
			}
		}
	}
}
