package walk

import (
	"testing"

	"binnacle/api"
	"binnacle/phys"
)

const top = ^uint64(0)

// mapped is the chapter's example: the frame 3 stands at the page 5.
func mapped(t *testing.T, bits uint64) *phys.Mem {
	t.Helper()
	m, e := phys.New(8)
	if e != api.OK {
		t.Fatal(e)
	}
	m.Store(0, 8, Entry(1, api.PteV))
	m.Store(256, 8, Entry(2, api.PteV))
	m.Store(512+40, 8, Entry(3, bits))
	return m
}

func TestPart(t *testing.T) { // P4.1
	for _, x := range []struct {
		at    uint64
		level int
		part  int
	}{{0x1f00, 0, 31}, {0x1fff, 0, 31}, {0x2000, 0, 0}, {0x2000, 1, 1}, {0x3e000, 1, 31}, {0x40000, 1, 0}, {0x40000, 2, 1}, {api.Space - 1, 2, 31}, {api.Space - 1, 1, 31}, {api.Space - 1, 0, 31}, {api.Space, 2, 0}, {api.Space - 1, 3, 0}, {api.Space - 1, -1, 0}, {top, 0, 0}, {api.Space - 1, -1 << 63, 0}, {api.Space - 1, 1 << 62, 0}, {5<<8 | 6<<13 | 7<<18 | 255, 0, 5}, {5<<8 | 6<<13 | 7<<18 | 255, 1, 6}, {5<<8 | 6<<13 | 7<<18 | 255, 2, 7}} {
		if n := Part(x.at, x.level); n != x.part {
			t.Error(x, n)
		}
	}
}

func TestEntry(t *testing.T) { // P4.1
	for _, x := range []struct {
		frame int
		bits  uint64
		entry uint64
	}{{0, 0, 0}, {1, api.PteV, 1<<10 | 1}, {3, 1023, 3<<10 | 1023}, {3, 1024, 3 << 10}, {3, top, 3<<10 | 1023}, {-1, 31, 0}, {-1 << 63, top, 0}, {1<<54 - 1, 1, (1<<54-1)<<10 | 1}, {1 << 54, 1, 1}, {1<<63 - 1, 0, (1<<54 - 1) << 10}} {
		if v := Entry(x.frame, x.bits); v != x.entry || Frame(v) != x.entry>>10 {
			t.Error(x, v)
		}
	}
	if Frame(top) != 1<<54-1 || Frame(1023) != 0 {
		t.Error("Frame")
	}
}

func TestLeaf(t *testing.T) { // P4.2
	m := mapped(t, 31)
	for _, x := range []struct {
		root int
		at   uint64
		v    uint64
		e    api.Errno
	}{{0, 5 * 256, 2*256 + 40, api.OK}, {0, 0, 2 * 256, api.OK}, {0, 31*256 + 255, 2*256 + 31*8, api.OK}, {0, 32 * 256, 0, api.ErrAddr}, {0, 1 << 18, 0, api.ErrAddr}, {0, api.Space, 0, api.ErrAddr}, {0, top, 0, api.ErrAddr}, {-1, 0, 0, api.ErrArg}, {8, 0, 0, api.ErrArg}, {8, top, 0, api.ErrArg}, {1 << 62, 0, 0, api.ErrArg}, {-1 << 63, 0, 0, api.ErrArg}, {7, 0, 0, api.ErrAddr}} {
		if v, e := Leaf(m, x.root, x.at); v != x.v || e != x.e {
			t.Error(x, v, e)
		}
	}
	if _, e := Leaf(nil, 0, 0); e != api.ErrArg {
		t.Error("no memory")
	}
}

func TestPointing(t *testing.T) { // P4.2: which entries lead on
	for _, place := range []uint64{0, 256} {
		for bits := uint64(0); bits < 1024; bits++ {
			for _, frame := range []int{int(place)/256 + 1, 8, 1 << 50} {
				m := mapped(t, 31)
				m.Store(place, 8, Entry(frame, bits))
				want := api.ErrAddr
				if bits&1 == 1 && bits&(2|4|8) == 0 && frame < 8 {
					want = api.OK
				}
				if _, e := Leaf(m, 0, 5*256); e != want {
					t.Fatal(place, bits, frame, e)
				}
				if _, e := Walk(m, 0, 5*256, api.AccRead); e != want {
					t.Fatal(place, bits, frame, e)
				}
			}
		}
	}
}

func TestWalk(t *testing.T) { // P4.3, P4.4
	for bits := uint64(0); bits < 1024; bits++ {
		m := mapped(t, bits)
		before, _ := m.Get(0, 8*256)
		for acc, bit := range map[int]uint64{api.AccRead: api.PteR, api.AccWrite: api.PteW, api.AccFetch: api.PteX} {
			for _, place := range []uint64{0, 7, 255} {
				v, e := Walk(m, 0, 5*256+place, acc)
				if bits&1 != 0 && bits&16 != 0 && bits&bit != 0 {
					if v != 3*256+place || e != api.OK {
						t.Fatal(bits, acc, v, e)
					}
				} else if v != 0 || e != api.ErrAddr {
					t.Fatal(bits, acc, v, e)
				}
			}
		}
		if after, _ := m.Get(0, 8*256); after != before {
			t.Fatal("memory changed")
		}
	}
}

func TestWalkNot(t *testing.T) { // P4.3
	m := mapped(t, 31)
	for _, x := range []struct {
		root int
		at   uint64
		acc  int
		e    api.Errno
	}{{0, 4 * 256, 1, api.ErrAddr}, {0, 6 * 256, 1, api.ErrAddr}, {0, api.Space + 5*256, 1, api.ErrAddr}, {0, top, 3, api.ErrAddr}, {0, 5 * 256, 0, api.ErrArg}, {0, 5 * 256, 4, api.ErrArg}, {0, 5 * 256, -1, api.ErrArg}, {0, top, 4, api.ErrArg}, {8, 5 * 256, 1, api.ErrArg}, {-1, top, 1, api.ErrArg}} {
		if v, e := Walk(m, x.root, x.at, x.acc); v != 0 || e != x.e {
			t.Error(x, v, e)
		}
	}
	if _, e := Walk(nil, 0, 0, 1); e != api.ErrArg {
		t.Error("no memory")
	}
	for _, frame := range []int{8, 9, 1 << 53} {
		m.Store(512+40, 8, Entry(frame, 31))
		if v, e := Walk(m, 0, 5*256, api.AccRead); v != 0 || e != api.ErrAddr {
			t.Error("a frame that isn't there", v, e)
		}
	}
	m.Store(512+40, 8, Entry(7, 31))
	if v, e := Walk(m, 0, 5*256+9, api.AccRead); v != 7*256+9 || e != api.OK {
		t.Error("the last frame", v, e)
	}
}

func TestLoop(t *testing.T) { // a table may lead to itself
	m, _ := phys.New(1)
	m.Store(0, 8, Entry(0, api.PteV|api.PteU))
	if v, e := Leaf(m, 0, 0); v != 0 || e != api.OK {
		t.Error(v, e)
	}
	if v, e := Walk(m, 0, 0, api.AccRead); v != 0 || e != api.ErrAddr {
		t.Error(v, e)
	}
}
