package epoch_test

import (
	"math/rand"
	"reflect"
	"testing"

	"gantlet/api"
	"gantlet/epoch"
)

func slots(t *testing.T, threads int) *epoch.Slots {
	t.Helper()
	s, e := epoch.New(threads)
	if e != api.OK || s.Len() != threads {
		t.Fatal(threads, e)
	}
	return s
}

func TestNew(t *testing.T) { // P5.1
	for _, n := range []int{-1, 0, 65} {
		if s, e := epoch.New(n); s != nil || e != api.ErrEpoch {
			t.Error(n, e)
		}
	}
	slots(t, 1)
	s := slots(t, 64)
	if !reflect.DeepEqual(s.Snap(), make([]int, 64)) {
		t.Error(s.Snap())
	}
}

func TestEnterLeave(t *testing.T) { // P5.1, P5.2
	s := slots(t, 3)
	for _, n := range []int{-1, 3, 64} {
		if s.Enter(n) != api.ErrRange || s.Leave(n) != api.ErrRange || s.At(n) != 0 || s.In(n) {
			t.Error(n)
		}
	}
	for n := range 6 {
		if s.Leave(2) != api.ErrEpoch || s.At(2) != 2*n || s.In(2) {
			t.Error(n, "outside")
		}
		if s.Enter(2) != api.OK || s.At(2) != 2*n+1 || !s.In(2) {
			t.Error(n, "Enter")
		}
		if s.Enter(2) != api.ErrEpoch || s.At(2) != 2*n+1 {
			t.Error(n, "within")
		}
		if s.Leave(2) != api.OK {
			t.Error(n, "Leave")
		}
	}
	if s.At(0) != 0 || s.At(1) != 0 {
		t.Error("others")
	}
}

func TestPassed(t *testing.T) { // P5.3
	s := slots(t, 2)
	s.Enter(1)
	snap := s.Snap()
	if !reflect.DeepEqual(snap, []int{0, 1}) {
		t.Error(snap)
	}
	if s.Passed(0, snap) || !s.Passed(1, snap) || s.Passed(-1, snap) || s.Passed(7, snap) {
		t.Error("within")
	}
	s.Enter(0) // who comes later does not matter
	if s.Passed(0, snap) {
		t.Error("still within")
	}
	s.Leave(1)
	if !s.Passed(0, snap) {
		t.Error("left")
	}
	s.Enter(1)
	if !s.Passed(0, snap) {
		t.Error("another one")
	}
	for _, l := range [][]int{nil, {0}, {0, 0, 0}} {
		if s.Passed(0, l) {
			t.Error("another length", l)
		}
	}
	if !s.Passed(-1, []int{2, 4}) || !s.Passed(-1, []int{-1, -3}) || !s.Passed(-1, []int{3, 1}) || s.Passed(-1, []int{0, 3}) {
		t.Error("even ones, and others than there are, are passed")
	}
}

func TestFork(t *testing.T) { // P5.3, P5.5
	s := slots(t, 3)
	s.Enter(1)
	f := s.Fork()
	if f.Len() != 3 || !reflect.DeepEqual(f.Snap(), []int{0, 1, 0}) {
		t.Error(f.Snap())
	}
	f.Leave(1)
	s.Enter(0)
	if !reflect.DeepEqual(f.Snap(), []int{0, 2, 0}) || !reflect.DeepEqual(s.Snap(), []int{1, 1, 0}) {
		t.Error(f.Snap(), s.Snap())
	}
	s.Snap()[0] = 8
	if s.At(0) != 1 {
		t.Error("what is told is one's own")
	}
}

func TestNobodyMadeThem(t *testing.T) {
	for _, s := range []*epoch.Slots{nil, {}} {
		if s.Len() != 0 || s.Enter(0) != api.ErrNil || s.Leave(-1) != api.ErrNil || s.At(0) != 0 || s.In(0) || s.Snap() != nil || s.Passed(0, nil) || s.Fork() != nil {
			t.Error("zeros")
		}
	}
}

// P5.4: passed just when each other one that was within has left, and so from then on.
func TestQuiet(t *testing.T) {
	r := rand.New(rand.NewSource(3))
	for range 200 {
		s := slots(t, 4)
		for range 10 {
			if n := r.Intn(4); s.Enter(n) != api.OK {
				s.Leave(n)
			}
		}
		me, snap := r.Intn(4), s.Snap()
		waits := map[int]bool{}
		for n := range 4 {
			if n != me && s.In(n) {
				waits[n] = true
			}
		}
		for range 30 {
			if s.Passed(me, snap) != (len(waits) == 0) {
				t.Fatal(me, snap, s.Snap(), waits)
			}
			n := r.Intn(4)
			if s.Enter(n) != api.OK {
				s.Leave(n)
				delete(waits, n)
			}
		}
	}
}
