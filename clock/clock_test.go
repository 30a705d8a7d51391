package clock_test

import (
	"testing"

	"gantlet/api"
	"gantlet/clock"
)

func TestNew(t *testing.T) { // P4.1
	for _, limit := range []int{-1, 0, api.MaxClock + 1} {
		if c, e := clock.New(limit); c != nil || e != api.ErrArg {
			t.Error(limit, e)
		}
	}
	for _, limit := range []int{1, 7, api.MaxClock} {
		c, e := clock.New(limit)
		if e != api.OK || c.Now() != 0 || c.Last() != 0 || c.Full() || c.Left() != limit {
			t.Error(limit, e)
		}
	}
}

func TestFull(t *testing.T) { // P4.1, P4.2, P4.5
	for limit := 1; limit < 6; limit++ {
		c, _ := clock.New(limit)
		for n := 1; n < 10; n++ {
			if c.Full() != (n-1 >= limit) || c.Left() != max(0, limit-n+1) {
				t.Error(limit, n, c.Full(), c.Left())
			}
			if c.Next() != n || c.Now() != n {
				t.Error(limit, n, c.Now())
			}
		}
	}
}

func TestStamps(t *testing.T) { // P4.3, P4.4
	c, _ := clock.New(2)
	for n := 1; n < 9; n++ {
		if c.Stamp() != n || c.Last() != n || c.Now() != n-1 {
			t.Error(n, c.Last(), c.Now())
		}
		c.Next()
		if c.Last() != n || c.Now() != n {
			t.Error(n, c.Last(), c.Now())
		}
	}
}

func TestFork(t *testing.T) { // P4.3
	c, _ := clock.New(4)
	c.Next()
	c.Stamp()
	c.Stamp()
	f := c.Fork()
	if f.Now() != 1 || f.Last() != 2 || f.Left() != 3 {
		t.Error(f.Now(), f.Last(), f.Left())
	}
	f.Next()
	f.Stamp()
	if c.Now() != 1 || c.Last() != 2 {
		t.Error("a fork turns what it is of")
	}
	c.Next()
	c.Next()
	if f.Now() != 2 || f.Full() {
		t.Error("a clock turns its fork")
	}
}

func TestNobodyMadeIt(t *testing.T) { // P4.3
	for _, c := range []*clock.Clock{nil, {}} {
		if c.Now() != 0 || c.Next() != 0 || !c.Full() || c.Left() != 0 || c.Stamp() != 0 || c.Last() != 0 || c.Fork() != nil || c.Now() != 0 {
			t.Error("zeros")
		}
	}
}
