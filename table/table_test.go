package table

import (
	"math/rand"
	"testing"

	"binnacle/api"
)

const (
	live = api.ProcLive
	done = api.ProcDone
)

func TestFirst(t *testing.T) { // P14.1
	if x := First(); x != (api.Table{{State: live}}) {
		t.Error(x)
	}
}

// strange are pids that are none, or don't live in x.
func strange(x api.Table) []int {
	out := []int{-1, 8, 1 << 60, -1 << 63}
	for n, row := range x {
		if row.State != live {
			out = append(out, n)
		}
	}
	return out
}

func TestNone(t *testing.T) { // chapter 14's promises
	x := api.Table{{State: live}, {State: done, Status: 4}, {State: 7, Parent: 3, Status: 9, Killed: true}, {State: live, Parent: 1}}
	for _, pid := range strange(x) {
		a, n, e1 := Fork(x, pid)
		b, e2 := Exit(x, pid, 3)
		c, m, status, e3 := Wait(x, pid)
		d, e4 := Kill(x, pid)
		if a != x || b != x || c != x || d != x || n != 0 || m != 0 || status != 0 {
			t.Error(pid, "something changed")
		}
		for i, e := range []api.Errno{e1, e2, e3, e4} {
			if e != api.ErrNone {
				t.Error(pid, i, e)
			}
		}
	}
}

func TestFork(t *testing.T) { // P14.2
	x := First()
	for want := 1; want < 8; want++ {
		y, n, e := Fork(x, want/2)
		z := x
		z[want] = api.Row{State: live, Parent: want / 2}
		if n != want || e != api.OK || y != z {
			t.Error(want, n, e)
		}
		x = y
	}
	if y, n, e := Fork(x, 3); n != 0 || e != api.ErrFull || y != x {
		t.Error(n, e)
	}
	x[5] = api.Row{State: -3, Parent: 4, Status: 9, Killed: true} // free by a state of no name
	y, n, e := Fork(x, 3)
	if n != 5 || e != api.OK || y[5] != (api.Row{State: live, Parent: 3}) {
		t.Error(n, e, y[5])
	}
	x = api.Table{1: {State: live}} // the place 0 is never given
	for n := 2; n < 8; n++ {
		x[n].State = done
	}
	if y, n, e := Fork(x, 1); n != 0 || e != api.ErrFull || y != x {
		t.Error(n, e)
	}
}

func TestExit(t *testing.T) { // P14.3
	x := api.Table{{State: live, Killed: true}, {State: live, Parent: 5, Status: 3, Killed: true}, {State: live, Parent: 1}, {State: done, Parent: 1, Status: 8}, {State: 9, Parent: 1}, {State: live, Parent: 2}}
	want := x
	want[1] = api.Row{State: done, Parent: 5, Status: -7}
	want[2].Parent, want[3].Parent = 0, 0
	if y, e := Exit(x, 1, -7); e != api.OK || y != want {
		t.Error(y, e)
	}
	x[1].Parent = 1 // its own parent: it isn't its own child
	want[1].Parent = 1
	if y, e := Exit(x, 1, -7); e != api.OK || y != want {
		t.Error(y, e)
	}
	y, e := Exit(First(), 0, 5)
	if e != api.OK || y != (api.Table{{State: done, Status: 5}}) {
		t.Error(y, e)
	}
}

func TestWait(t *testing.T) { // P14.4
	x := api.Table{{State: live}, {State: live}, {State: done, Parent: 1, Status: 5}, {State: done, Parent: 0, Status: 6}, {State: 9}, {State: done, Parent: 0, Status: 7}}
	want := x
	want[3] = api.Row{}
	if y, n, status, e := Wait(x, 0); n != 3 || status != 6 || e != api.OK || y != want {
		t.Error(y, n, status, e)
	}
	x[3].State, x[5].State = live, live
	if y, n, status, e := Wait(x, 0); n != 0 || status != 0 || e != api.ErrBusy || y != x {
		t.Error(y, n, status, e)
	}
	x = api.Table{{State: live}, {State: 9}, {State: live, Parent: 2}}
	for _, pid := range []int{0, 2} { // nobody is its own child
		if y, n, status, e := Wait(x, pid); n != 0 || status != 0 || e != api.ErrChild || y != x {
			t.Error(y, n, status, e)
		}
	}
}

func TestKill(t *testing.T) { // P14.4
	x := api.Table{{State: live}, {State: live, Parent: 3, Status: 2}}
	want := x
	want[1].Killed = true
	for range 2 {
		y, e := Kill(x, 1)
		if e != api.OK || y != want {
			t.Error(y, e)
		}
		x = y
	}
}

func TestNext(t *testing.T) { // P14.5
	x := api.Table{0: {State: live}, 2: {State: done}, 3: {State: live}, 5: {State: 9}, 7: {State: live, Killed: true}}
	for after, want := range map[int]int{0: 3, 1: 3, 2: 3, 3: 7, 6: 7, 7: 0, 8: 3, 15: 0, -1: 0, -5: 7, -8: 3, -9: 0, 1<<63 - 1: 0, -1 << 63: 3} {
		if n := Next(x, after, api.Busy{}); n != want {
			t.Error(after, n, want)
		}
	}
	for after, want := range map[int]int{0: 7, 3: 7, 7: 0} {
		if n := Next(x, after, api.Busy{1: true, 3: true}); n != want {
			t.Error(after, n, want)
		}
	}
	if n := Next(x, 3, api.Busy{0: true, 7: true}); n != 3 {
		t.Error("all are gone round", n)
	}
	if n := Next(x, 3, api.Busy{0: true, 3: true, 7: true}); n != -1 {
		t.Error(n)
	}
	if n := Next(api.Table{}, 3, api.Busy{}); n != -1 {
		t.Error(n)
	}
}

// TestTurns: whoever lives has its turn within eight.
func TestTurns(t *testing.T) { // P14.6
	r := rand.New(rand.NewSource(1))
	x, after := First(), 7
	for range 500 {
		pid := r.Intn(8)
		switch r.Intn(4) {
		case 0, 1:
			x, _, _ = Fork(x, pid)
		case 2:
			if pid > 0 {
				x, _ = Exit(x, pid, 1)
			}
		case 3:
			y, n, _, e := Wait(x, pid)
			if e == api.OK && (x[n].State != done || y[n] != (api.Row{})) {
				t.Fatal("told, but not ended, or still there")
			}
			x = y
		}
		had := api.Busy{}
		for range 8 {
			after = Next(x, after, api.Busy{})
			had[after] = true
		}
		for n, row := range x {
			if had[n] != (row.State == live) {
				t.Fatal(n, row)
			}
		}
	}
}

func TestExamples(t *testing.T) {
	x := First()
	x, a, _ := Fork(x, 0)
	x, b, _ := Fork(x, 1)
	_, _, _, e := Wait(x, 0)
	_, _, _, f := Wait(x, 2)
	if a != 1 || b != 2 || e != api.ErrBusy || f != api.ErrChild {
		t.Error(a, b, e, f)
	}
	if Next(x, 0, api.Busy{}) != 1 || Next(x, 2, api.Busy{}) != 0 || Next(x, 0, api.Busy{1: true}) != 2 {
		t.Error("Next")
	}
	x, _ = Exit(x, 1, 5)
	if x[2].Parent != 0 {
		t.Error(x[2])
	}
	x, n, status, _ := Wait(x, 0)
	if n != 1 || status != 5 {
		t.Error(n, status)
	}
	if _, n, _ := Fork(x, 0); n != 1 {
		t.Error(n)
	}
}
