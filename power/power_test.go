package power_test

import (
	"math"
	"testing"

	"scupper/api"
	"scupper/power"
)

// told holds an error's number against the one that is asked for.
func told(t *testing.T, what string, got, want api.Errno) {
	t.Helper()
	if got != want {
		t.Errorf("%s: %d, want %d", what, got, want)
	}
}

// stands holds what a supply tells of itself against what is asked for.
func stands(t *testing.T, what string, s *power.Supply, gone bool, used int) {
	t.Helper()
	if g, u := s.Gone(), s.Used(); g != gone || u != used {
		t.Errorf("%s: gone %v, used %d, want gone %v, used %d", what, g, u, gone, used)
	}
}

// oks is how many of n uses are OK; each of the others must be ErrDown, and none may be OK behind one of these.
func oks(t *testing.T, s *power.Supply, n int) int {
	t.Helper()
	c := 0
	for i := range n {
		switch e := s.Use(); {
		case e == api.OK && c == i:
			c++
		case e != api.ErrDown:
			t.Fatalf("use %d of %d: %d behind %d that were OK", i, n, e, c)
		}
	}
	return c
}

// 3.1: a new supply is without an end, and nothing of it was used.
func TestNewHasNoEnd(t *testing.T) {
	s := power.New()
	stands(t, "new", s, false, 0)
	if c := oks(t, s, 10000); c != 10000 {
		t.Errorf("%d uses of 10000 are OK", c)
	}
	stands(t, "behind 10000 uses", s, false, 10000)
}

// 3.1: each New is a supply of its own.
func TestNewIsItsOwn(t *testing.T) {
	a, b := power.New(), power.New()
	told(t, "limit of a", a.Limit(0), api.OK)
	told(t, "use of a", a.Use(), api.ErrDown)
	told(t, "use of b", b.Use(), api.OK)
	stands(t, "a", a, true, 0)
	stands(t, "b", b, false, 1)
}

// 3.1, the chapter's example.
func TestLimitOne(t *testing.T) {
	s := power.New()
	told(t, "limit", s.Limit(1), api.OK)
	stands(t, "behind the limit", s, false, 0)
	told(t, "first use", s.Use(), api.OK)
	stands(t, "behind the last unit", s, false, 1)
	told(t, "second use", s.Use(), api.ErrDown)
	stands(t, "behind a use of none", s, true, 1)
	told(t, "third use", s.Use(), api.ErrDown)
	stands(t, "behind another", s, true, 1)
}

// 3.1, an edge: with no unit left the power is there until it is asked for.
func TestLimitNone(t *testing.T) {
	s := power.New()
	told(t, "limit", s.Limit(0), api.OK)
	stands(t, "behind the limit", s, false, 0)
	told(t, "use", s.Use(), api.ErrDown)
	stands(t, "behind the use", s, true, 0)
}

// 3.1: a limit that comes while none is left, but ahead of a use that finds none, gives power.
func TestLimitAheadOfGone(t *testing.T) {
	s := power.New()
	told(t, "limit 0", s.Limit(0), api.OK)
	told(t, "limit 1", s.Limit(1), api.OK)
	told(t, "use", s.Use(), api.OK)
	told(t, "limit 1 again", s.Limit(1), api.OK)
	told(t, "use again", s.Use(), api.OK)
	stands(t, "behind both", s, false, 2)
}

// 3.1, an edge: what is gone stays gone, whatever the limit.
func TestLimitOfGone(t *testing.T) {
	for _, n := range []int{0, 1, 5, math.MaxInt} {
		s := power.New()
		s.Limit(0)
		s.Use()
		told(t, "limit", s.Limit(n), api.OK)
		stands(t, "behind the limit", s, true, 0)
		told(t, "use", s.Use(), api.ErrDown)
		stands(t, "behind the use", s, true, 0)
	}
}

// 3.1 and P2, wrong inputs: fewer than 0 units are refused, and what was left is left.
func TestLimitBelowNone(t *testing.T) {
	for _, n := range []int{-1, -2, -1000, math.MinInt} {
		endless := power.New()
		told(t, "limit of one without an end", endless.Limit(n), api.ErrArg)
		if c := oks(t, endless, 100); c != 100 {
			t.Errorf("limit %d, refused: %d uses of 100 are OK", n, c)
		}

		three := power.New()
		three.Limit(3)
		told(t, "limit of one with three", three.Limit(n), api.ErrArg)
		stands(t, "one with three", three, false, 0)
		if c := oks(t, three, 10); c != 3 {
			t.Errorf("limit %d, refused: %d uses are OK, want 3", n, c)
		}

		told(t, "limit of one that is gone", three.Limit(n), api.ErrArg)
		stands(t, "one that is gone", three, true, 3)
	}
}

// 3.1: what was used is told all in all, over limits, the power's going, and restores.
func TestUsedAllInAll(t *testing.T) {
	s := power.New()
	want := 0
	for n := range 20 {
		want += oks(t, s, 2)
		s.Limit(n)
		want += oks(t, s, n+3)
		stands(t, "while it is gone", s, true, want)
		s.Limit(n)
		stands(t, "behind a limit", s, true, want)
		s.Restore()
		stands(t, "behind a restore", s, false, want)
	}
	if want != 20*2+190 {
		t.Errorf("%d uses were OK, want %d", want, 20*2+190)
	}
}

// 3.2: behind Restore it is not gone, and without an end.
func TestRestoreOfGone(t *testing.T) {
	s := power.New()
	s.Limit(2)
	oks(t, s, 5)
	stands(t, "gone", s, true, 2)
	s.Restore()
	stands(t, "restored", s, false, 2)
	if c := oks(t, s, 1000); c != 1000 {
		t.Errorf("%d uses of 1000 are OK", c)
	}
	stands(t, "used on", s, false, 1002)
}

// 3.2, an edge: a limit that was set while the power was gone does not live through Restore.
func TestRestoreBehindLimitOfGone(t *testing.T) {
	s := power.New()
	s.Limit(0)
	s.Use()
	told(t, "limit", s.Limit(3), api.OK)
	s.Restore()
	if c := oks(t, s, 100); c != 100 {
		t.Errorf("%d uses of 100 are OK", c)
	}
}

// 3.2: Restore ends a limit also where the power is not gone, and does nothing to one without an end.
func TestRestoreOfLimited(t *testing.T) {
	for _, n := range []int{0, 1, 50} {
		s := power.New()
		s.Limit(n)
		s.Restore()
		s.Restore()
		stands(t, "restored", s, false, 0)
		if c := oks(t, s, 100); c != 100 {
			t.Errorf("limit %d, restored: %d uses of 100 are OK", n, c)
		}
	}
	s := power.New()
	s.Use()
	s.Restore()
	stands(t, "one without an end", s, false, 1)
	told(t, "its use", s.Use(), api.OK)
}

// 3.2: power goes again behind a restore, and comes back again.
func TestRestoreAgain(t *testing.T) {
	s := power.New()
	for i := range 5 {
		s.Limit(1)
		if c := oks(t, s, 3); c != 1 {
			t.Fatalf("round %d: %d uses are OK, want 1", i, c)
		}
		stands(t, "gone", s, true, i+1)
		s.Restore()
		stands(t, "restored", s, false, i+1)
	}
}

// 3.2: Gone and Used ask, and change nothing.
func TestAskingUsesNothing(t *testing.T) {
	s := power.New()
	s.Limit(1)
	for range 10 {
		stands(t, "one is left", s, false, 0)
	}
	told(t, "use", s.Use(), api.OK)
	for range 10 {
		stands(t, "none is left", s, false, 1)
	}
	told(t, "use of none", s.Use(), api.ErrDown)
}

// 3.2 and P1: what is told, and done, on nil.
func TestNil(t *testing.T) {
	var s *power.Supply
	for range 3 {
		told(t, "use", s.Use(), api.OK)
		for _, n := range []int{math.MinInt, -1, 0, 1, math.MaxInt} {
			told(t, "limit", s.Limit(n), api.ErrArg)
		}
		stands(t, "nil", s, false, 0)
		s.Restore()
		stands(t, "nil, restored", s, false, 0)
	}
}

// A supply that New did not make is as one that it made.
func TestZeroSupply(t *testing.T) {
	var s power.Supply
	stands(t, "zero", &s, false, 0)
	if c := oks(t, &s, 100); c != 100 {
		t.Errorf("%d uses of 100 are OK", c)
	}
	stands(t, "used", &s, false, 100)
}

// 3.3: behind Limit(n) just n uses are OK.
func TestLimitIsJustSoManyUses(t *testing.T) {
	for n := range 200 {
		s := power.New()
		oks(t, s, n%7)
		told(t, "limit", s.Limit(n), api.OK)
		if c := oks(t, s, n+10); c != n {
			t.Errorf("limit %d: %d uses are OK", n, c)
		}
		stands(t, "behind them", s, true, n%7+n)
	}
}

// 3.3: another Limit, greater or less than what is left, counts anew from where it stands.
func TestAnotherLimit(t *testing.T) {
	for first := range 8 {
		for used := range first + 1 {
			for second := range 8 {
				s := power.New()
				s.Limit(first)
				if c := oks(t, s, used); c != used {
					t.Fatalf("limit %d: %d uses of %d are OK", first, c, used)
				}
				told(t, "second limit", s.Limit(second), api.OK)
				if c := oks(t, s, 20); c != second {
					t.Errorf("limit %d, %d used, limit %d: %d uses are OK", first, used, second, c)
				}
				stands(t, "behind them", s, true, used+second)
			}
		}
	}
}

// 3.3, an edge: the greatest limit.
func TestGreatestLimit(t *testing.T) {
	s := power.New()
	told(t, "limit", s.Limit(math.MaxInt), api.OK)
	if c := oks(t, s, 1000); c != 1000 {
		t.Errorf("%d uses of 1000 are OK", c)
	}
	stands(t, "behind them", s, false, 1000)
}
