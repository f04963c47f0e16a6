package lock

import (
	"math/rand"
	"sync"
	"testing"

	"binnacle/api"
)

func fresh(t *testing.T, wide int) *Lock {
	t.Helper()
	l, e := New(wide)
	if l == nil || e != api.OK {
		t.Fatal(wide, e)
	}
	return l
}

func TestNew(t *testing.T) { // P15.1
	for _, wide := range []int{1, 2, 64} {
		l := fresh(t, wide)
		if l.Has(0) || l.Waiting() != 0 || l.Let() != 0 || l.Pass(0) != api.ErrArg {
			t.Error(wide)
		}
	}
	for _, wide := range []int{0, -1, 65, 1 << 60, -1 << 63} {
		if l, e := New(wide); l != nil || e != api.ErrArg {
			t.Error(wide, e)
		}
	}
	var l *Lock
	n, e := l.Ask()
	if n != 0 || e != api.ErrArg || l.Has(0) || l.Pass(0) != api.ErrArg || l.Waiting() != 0 || l.Let() != 0 {
		t.Error("of none")
	}
}

func TestMostTickets(t *testing.T) { // P15.1
	l := fresh(t, 1)
	l.given.Store(1<<62 - 1)
	if n, e := l.Ask(); n != 1<<62-1 || e != api.OK {
		t.Error(n, e)
	}
	for range 3 {
		if n, e := l.Ask(); n != 0 || e != api.ErrFull || l.Waiting() != 1<<62 {
			t.Error(n, e)
		}
	}
}

func TestExamples(t *testing.T) { // P15.1 to P15.3
	l := fresh(t, 1)
	a, _ := l.Ask()
	b, _ := l.Ask()
	if a != 0 || b != 1 || !l.Has(0) || l.Has(1) || l.Pass(1) != api.ErrArg || l.Let() != 1 || l.Waiting() != 2 {
		t.Error("asked")
	}
	if l.Pass(0) != api.OK || l.Has(0) || !l.Has(1) || l.Waiting() != 1 || l.Let() != 2 || l.Pass(0) != api.ErrArg {
		t.Error("handed back")
	}
	l = fresh(t, 2)
	for range 3 {
		l.Ask()
	}
	if l.Has(2) || l.Pass(1) != api.OK || !l.Has(2) || !l.Has(0) || l.Has(1) || l.Has(3) || l.Has(^uint64(0)) {
		t.Error("two at once")
	}
}

// TestModel holds a lock against what the chapter's words say of it.
func TestModel(t *testing.T) { // P15.2 to P15.4
	for seed := range int64(40) {
		r := rand.New(rand.NewSource(seed))
		wide := 1 + r.Intn(5)
		l := fresh(t, wide)
		back := map[uint64]bool{}
		given := uint64(0)
		has := func(n uint64) bool {
			return n < given && !back[n] && n < uint64(len(back)+wide)
		}
		for range 300 {
			if r.Intn(2) == 0 {
				if n, e := l.Ask(); n != given || e != api.OK {
					t.Fatal(n, e)
				}
				given++
			} else {
				n := uint64(r.Intn(int(given) + 3))
				had := has(n)
				if e := l.Pass(n); (e == api.OK) != had || !had && e != api.ErrArg {
					t.Fatal(n, e)
				}
				if had {
					back[n] = true
				}
			}
			count := 0
			for n := range given + 3 {
				if l.Has(n) != has(n) {
					t.Fatal(seed, n)
				}
				if has(n) {
					count++
				}
				ahead := 0 // of it, not handed back
				for k := range n {
					if !back[k] {
						ahead++
					}
				}
				if n < given && !back[n] && ahead < wide != l.Has(n) {
					t.Fatal(seed, n, "those ahead")
				}
			}
			if count > wide || l.Waiting() != given-uint64(len(back)) || l.Let() != min(given, uint64(len(back)+wide)) {
				t.Fatal(seed, count)
			}
		}
	}
}

// TestTogether: many ask and hand back at once; no ticket is given twice.
func TestTogether(t *testing.T) { // P15.1
	l := fresh(t, 64)
	var wait sync.WaitGroup
	for range 8 {
		wait.Go(func() {
			for range 100 {
				n, _ := l.Ask()
				for range 1000000 {
					if l.Pass(n) == api.OK {
						break
					}
				}
			}
		})
	}
	wait.Wait()
	if l.Waiting() != 0 || l.Let() != 800 {
		t.Error(l.Waiting(), l.Let())
	}
}
