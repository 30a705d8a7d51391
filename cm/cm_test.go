package cm_test

import (
	"math"
	"testing"

	"gantlet/api"
	"gantlet/cm"
)

func TestCheck(t *testing.T) { // P9.1
	for _, c := range []struct {
		m     api.Manager
		tries int
		e     api.Errno
	}{
		{api.Greedy, 0, api.OK}, {api.Greedy, -5, api.OK}, {api.Greedy, math.MaxInt, api.OK},
		{api.Polite, 1, api.OK}, {api.Polite, 1000, api.OK}, {api.Polite, 0, api.ErrCM}, {api.Polite, -1, api.ErrCM}, {api.Polite, 1001, api.ErrCM},
		{api.NoManager, 5, api.ErrCM}, {3, 5, api.ErrCM}, {-1, 5, api.ErrCM},
	} {
		if e := cm.Check(c.m, c.tries); e != c.e {
			t.Error(c, e)
		}
	}
}

func TestDecide(t *testing.T) { // P9.2
	for _, c := range []struct {
		m            api.Manager
		mine, theirs int
		firm         bool
		tried, tries int
		want         api.Verdict
	}{
		{api.Greedy, 3, 5, false, 0, 0, api.Doom}, {api.Greedy, 5, 3, false, 0, 0, api.Give}, {api.Greedy, 4, 4, false, 0, 9, api.Give},
		{api.Greedy, 3, 5, true, 99, 0, api.Wait}, {api.Greedy, 5, 3, true, 0, 0, api.Wait}, {api.Greedy, 3, 0, false, 0, 0, api.Give}, {api.Greedy, 0, 3, false, 0, 0, api.Doom},
		{api.Polite, 3, 5, false, 0, 2, api.Wait}, {api.Polite, 5, 3, false, 1, 2, api.Wait}, {api.Polite, 3, 5, false, 2, 2, api.Give}, {api.Polite, 3, 5, true, 2, 2, api.Give}, {api.Polite, 3, 5, true, 1, 2, api.Wait}, {api.Polite, 1, 2, false, 3, 2, api.Give},
		{api.NoManager, 1, 2, true, 0, 9, api.Give}, {3, 1, 2, true, 0, 9, api.Give}, {-1, 1, 2, false, 0, 9, api.Give},
	} {
		if v := cm.Decide(c.m, c.mine, c.theirs, c.firm, c.tried, c.tries); v != c.want {
			t.Error(c, v)
		}
	}
}

// P9.3, P9.5: of two just one gives way, the one that began later; so the oldest of a row never does.
func TestGreedy(t *testing.T) {
	for a := 1; a < 20; a++ {
		for b := 1; b < 20; b++ {
			v, w := cm.Decide(api.Greedy, a, b, false, 0, 0), cm.Decide(api.Greedy, b, a, false, 0, 0)
			if a != b && (v == api.Give) == (w == api.Give) {
				t.Error(a, b, v, w)
			}
			if a < b && (v != api.Doom || w != api.Give) {
				t.Error(a, b, v, w)
			}
		}
	}
}

// P9.4: a polite one waits just as often as it may.
func TestPolite(t *testing.T) {
	for _, tries := range []int{1, 2, 1000} {
		tried := 0
		for cm.Decide(api.Polite, 1, 2, true, tried, tries) == api.Wait && tried <= 2000 {
			tried++
		}
		if tried != tries {
			t.Error(tries, tried)
		}
	}
}
