package frames

import (
	"strings"
	"testing"

	"binnacle/api"
	"binnacle/phys"
)

func pool(t *testing.T, size, first int) (*phys.Mem, *Pool) {
	t.Helper()
	m, e := phys.New(size)
	if e != api.OK {
		t.Fatal(e)
	}
	p, e := New(m, first)
	if e != api.OK || p == nil {
		t.Fatal(e)
	}
	return m, p
}

// takes fails, unless that frame is taken next.
func takes(t *testing.T, p *Pool, want int) {
	t.Helper()
	if n, e := p.Take(); n != want || e != api.OK {
		t.Fatalf("%d %d, not %d", n, e, want)
	}
}

func TestNew(t *testing.T) { // P10.1
	m, _ := phys.New(4)
	for _, first := range []int{0, 1, 4} {
		if p, e := New(m, first); e != api.OK || p.Left() != 4-first || p.Mem() != m {
			t.Error(first, e)
		}
	}
	for _, first := range []int{-1, 5, 1 << 60, -1 << 63} {
		if p, e := New(m, first); p != nil || e != api.ErrArg {
			t.Error(first, e)
		}
	}
	if p, e := New(nil, 0); p != nil || e != api.ErrArg {
		t.Error(e)
	}
	var p *Pool
	n, e := p.Take()
	if n != 0 || e != api.ErrArg || p.Give(0) != api.ErrArg || p.Taken(0) || p.Left() != 0 || p.Mem() != nil {
		t.Error("of none")
	}
}

func TestTakeAndGive(t *testing.T) { // P10.2, P10.3, and the example
	m, p := pool(t, 4, 1)
	if p.Left() != 3 {
		t.Error("Left")
	}
	m.Put(256, strings.Repeat("x", 768))
	for want := 1; want < 4; want++ {
		if p.Taken(want) {
			t.Error("not yet", want)
		}
		takes(t, p, want)
		if s, _ := m.Get(uint64(want)*256, 256); s != strings.Repeat("\x00", 256) || !p.Taken(want) || p.Left() != 3-want {
			t.Errorf("%d: %q", want, s)
		}
	}
	if n, e := p.Take(); n != 0 || e != api.ErrFull {
		t.Error(n, e)
	}
	m.Put(512, "secret")
	if p.Give(2) != api.OK || p.Give(2) != api.ErrArg || p.Taken(2) || p.Left() != 1 {
		t.Error("Give")
	}
	if s, _ := m.Get(512, 6); s != "\x00\x00\x00\x00\x00\x00" {
		t.Errorf("what is free has nothing: %q", s)
	}
	for _, n := range []int{0, -1, 4, 1 << 60, -1 << 63} {
		if p.Give(n) != api.ErrArg || p.Taken(n) {
			t.Error(n)
		}
	}
	takes(t, p, 2)
	p.Give(3)
	p.Give(1)
	takes(t, p, 1)
	takes(t, p, 3)
}

func TestEmpty(t *testing.T) { // P10.1, P10.2
	_, p := pool(t, 4, 4)
	if _, e := p.Take(); e != api.ErrFull || p.Taken(3) || p.Give(3) != api.ErrArg {
		t.Error(e)
	}
}
