package phys

import (
	"strings"
	"testing"

	"binnacle/api"
)

const top = ^uint64(0)

func mem(t *testing.T, frames int) *Mem {
	t.Helper()
	m, e := New(frames)
	if m == nil || e != api.OK {
		t.Fatal(frames, e)
	}
	return m
}

// whole are all bytes.
func whole(m *Mem) string {
	s, _ := m.Get(0, m.Frames()*api.PageSize)
	return s
}

func TestNew(t *testing.T) { // P3.1
	for _, n := range []int{1, 2, 255, 256} {
		m := mem(t, n)
		if m.Frames() != n || m.Touched() != 0 || whole(m) != strings.Repeat("\x00", 256*n) {
			t.Error(n)
		}
	}
	for _, n := range []int{0, -1, 257, 1 << 40, -1 << 63} {
		if m, e := New(n); m != nil || e != api.ErrArg {
			t.Error(n, m, e)
		}
	}
}

func TestNil(t *testing.T) { // P3.1
	var m *Mem
	if m.Frames() != 0 || m.Touched() != 0 || m.Clone() != nil || m.Clear(0) != api.ErrArg || m.Copy(0, 0) != api.ErrArg || m.Put(0, "") != api.ErrArg || m.Store(0, 1, 1) != api.ErrArg {
		t.Error("of none")
	}
	if v, e := m.Load(0, 1); v != 0 || e != api.ErrArg {
		t.Error("Load")
	}
	if s, e := m.Get(0, 0); s != "" || e != api.ErrArg {
		t.Error("Get")
	}
}

func TestLoadAndStore(t *testing.T) { // P3.2, P3.5, P3.6
	m := mem(t, 2)
	const v = 0x8877665544332211
	n := uint64(0)
	for _, size := range []int{1, 2, 4, 8} {
		for _, at := range []uint64{0, 1, 3, 250, 255, 256, 512 - uint64(size)} {
			before := whole(m)
			if e := m.Store(at, size, v); e != api.OK {
				t.Fatal(at, size, e)
			}
			want := "\x11\x22\x33\x44\x55\x66\x77\x88"[:size]
			if whole(m) != before[:at]+want+before[at+uint64(size):] {
				t.Fatal("other bytes", at, size)
			}
			got, e := m.Load(at, size)
			if low := uint64(v) << (64 - 8*size) >> (64 - 8*size); got != low || e != api.OK {
				t.Fatalf("%d %d: %x %d", at, size, got, e)
			}
			if n += 2; m.Touched() != n {
				t.Fatal("Touched", m.Touched())
			}
			m.Store(at, size, 0)
			n++
		}
	}
	for _, size := range []int{-8, -1, 0, 3, 5, 6, 7, 9, 16, 1 << 40} {
		for _, at := range []uint64{0, 511, 512, top} {
			if v, e := m.Load(at, size); v != 0 || e != api.ErrArg || m.Store(at, size, 1) != api.ErrArg {
				t.Error(at, size, e)
			}
		}
	}
	for _, size := range []int{1, 2, 4, 8} {
		for _, at := range []uint64{512 - uint64(size) + 1, 512, 513, top, top - uint64(size) + 1, top - 7, 1 << 63} {
			if v, e := m.Load(at, size); v != 0 || e != api.ErrAddr || m.Store(at, size, 1) != api.ErrAddr {
				t.Error(at, size, e)
			}
		}
	}
	if m.Touched() != n || whole(m) != strings.Repeat("\x00", 512) {
		t.Error("what was refused counts, or changed something")
	}
}

func TestGetAndPut(t *testing.T) { // P3.3
	m := mem(t, 2)
	if m.Put(254, "abcd") != api.OK {
		t.Error("Put")
	}
	if s, e := m.Get(253, 6); s != "\x00abcd\x00" || e != api.OK {
		t.Errorf("%q %d", s, e)
	}
	for _, x := range []struct {
		at uint64
		n  int
		e  api.Errno
	}{{512, 0, api.OK}, {513, 0, api.ErrAddr}, {511, 1, api.OK}, {511, 2, api.ErrAddr}, {0, 512, api.OK}, {0, 513, api.ErrAddr}, {top, 1, api.ErrAddr}, {top, 0, api.ErrAddr}, {top, 2, api.ErrAddr}, {1, 1 << 62, api.ErrAddr}, {1, 1<<63 - 1, api.ErrAddr}, {top, -1, api.ErrArg}, {0, -1, api.ErrArg}, {0, -1 << 63, api.ErrArg}} {
		if s, e := m.Get(x.at, x.n); e != x.e || e != api.OK && s != "" || e == api.OK && len(s) != x.n {
			t.Error(x, e, len(s))
		}
		if x.n < 0 || x.n > 1000 {
			continue
		}
		before := whole(m)
		if e := m.Put(x.at, strings.Repeat("z", x.n)); e != x.e || e != api.OK && whole(m) != before {
			t.Error("Put", x, e)
		}
	}
	if m.Touched() != 0 {
		t.Error("Touched")
	}
}

func TestFrames(t *testing.T) { // P3.4
	m := mem(t, 3)
	m.Put(256, strings.Repeat("b", 256))
	m.Put(512, strings.Repeat("c", 256))
	if m.Copy(0, 2) != api.OK || whole(m) != strings.Repeat("c", 256)+strings.Repeat("b", 256)+strings.Repeat("c", 256) {
		t.Error("Copy")
	}
	if m.Clear(2) != api.OK || m.Copy(1, 1) != api.OK || whole(m) != strings.Repeat("c", 256)+strings.Repeat("b", 256)+strings.Repeat("\x00", 256) {
		t.Error("Clear")
	}
	before := whole(m)
	for _, n := range []int{-1, 3, 1 << 60, 1<<63 - 1, -1 << 63, 1 << 56} {
		if m.Clear(n) != api.ErrAddr || m.Copy(n, 0) != api.ErrAddr || m.Copy(0, n) != api.ErrAddr || m.Copy(n, n) != api.ErrAddr {
			t.Error(n)
		}
	}
	if whole(m) != before || m.Touched() != 0 {
		t.Error("something changed")
	}
}

func TestClone(t *testing.T) { // P3.5
	m := mem(t, 2)
	m.Store(8, 8, 77)
	c := m.Clone()
	if c.Frames() != 2 || c.Touched() != 0 || whole(c) != whole(m) || m.Touched() != 1 {
		t.Error("Clone")
	}
	c.Store(8, 8, 78)
	m.Store(16, 8, 79)
	if v, _ := m.Load(8, 8); v != 77 {
		t.Error("the clone's bytes are its own")
	}
	if v, _ := c.Load(16, 8); v != 0 {
		t.Error("the clone's bytes are its own")
	}
}

func TestExamples(t *testing.T) { // P3.2 to P3.5
	m := mem(t, 2)
	if m.Store(255, 4, 0x04030201) != api.OK {
		t.Error("Store")
	}
	if v, _ := m.Load(256, 2); v != 0x0302 {
		t.Error("Load", v)
	}
	if s, _ := m.Get(255, 4); s != "\x01\x02\x03\x04" {
		t.Error("Get")
	}
	if _, e := m.Load(511, 2); e != api.ErrAddr {
		t.Error("behind")
	}
	if _, e := m.Load(0, 3); e != api.ErrArg || m.Touched() != 2 {
		t.Error("size")
	}
	m.Copy(1, 0)
	if v, _ := m.Load(511, 1); v != 1 {
		t.Error("Copy")
	}
}
