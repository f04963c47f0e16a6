package prog

import (
	"fmt"
	"slices"
	"strings"
	"testing"

	"binnacle/api"
	"binnacle/frames"
	"binnacle/phys"
	"binnacle/space"
	"binnacle/walk"
)

func pool(t *testing.T, size int) *frames.Pool {
	t.Helper()
	m, e := phys.New(size)
	if e != api.OK {
		t.Fatal(e)
	}
	p, e := frames.New(m, 0)
	if e != api.OK {
		t.Fatal(e)
	}
	return p
}

// bytes are so many, no page like another.
func bytes(n int) string {
	var b strings.Builder
	for i := 0; b.Len() < n; i++ {
		fmt.Fprintf(&b, "%d,", i)
	}
	return b.String()[:n]
}

// good are programs that may be.
func good() []api.Prog {
	return []api.Prog{
		{Text: bytes(4)},
		{Text: bytes(4), Bss: 1},
		{Text: bytes(256)},
		{Entry: 4, Text: bytes(8), Data: "x"},
		{Entry: 2044, Text: bytes(2048), Data: bytes(288), Bss: 4096},
		{Entry: 8, Text: bytes(1312), Data: bytes(1024), Bss: 256},
		{Text: bytes(260), Data: bytes(256), Bss: 4096},
		{Text: bytes(256), Data: bytes(255), Bss: 1},
		{Text: strings.Repeat("\x00", 12), Data: "\x00\x00"},
	}
}

// bad are programs that may not be.
func bad() []api.Prog {
	return []api.Prog{
		{}, {Text: "abc"}, {Text: bytes(5)}, {Text: bytes(6)}, {Text: bytes(2052)}, {Text: bytes(8), Entry: 8}, {Text: bytes(8), Entry: 2}, {Text: bytes(8), Entry: -4}, {Text: bytes(8), Entry: -1 << 63}, {Text: bytes(8), Entry: 1 << 40}, {Text: bytes(8), Data: bytes(1025)}, {Text: bytes(8), Bss: -1}, {Text: bytes(8), Bss: 4097}, {Text: bytes(8), Bss: 1<<63 - 1}, {Text: bytes(2048), Data: bytes(289)}, {Text: bytes(1316), Data: bytes(1024)},
	}
}

func TestFiles(t *testing.T) { // P12.1
	for i, x := range good() {
		s, e := Encode(x)
		num := func(n int) string { return string([]byte{byte(n), byte(n >> 8), byte(n >> 16), byte(n >> 24)}) }
		want := "BKP\x01" + num(x.Entry) + num(len(x.Text)) + num(len(x.Data)) + num(x.Bss) + strings.Repeat("\x00", 12) + x.Text + x.Data
		if !May(x) || s != want || e != api.OK {
			t.Errorf("%d: %q %d", i, s, e)
		}
		y, e := Decode(s)
		if y != x || e != api.OK {
			t.Errorf("%d: %v %d", i, y, e)
		}
		for at := range 32 { // no other head is that of these bytes
			for _, by := range []byte{1, 2, 128} {
				other := s[:at] + string([]byte{s[at] ^ by}) + s[at+1:]
				y, e := Decode(other)
				if e == api.OK {
					if back, _ := Encode(y); back != other || y == x {
						t.Errorf("%d: %d", i, at)
					}
				} else if e != api.ErrForm || y != (api.Prog{}) {
					t.Errorf("%d: %d: %d", i, at, e)
				}
				if e == api.OK && (at < 4 || at >= 20) {
					t.Errorf("%d: %d may not differ", i, at)
				}
			}
		}
		for _, other := range []string{s[:len(s)-1], s + "\x00", s[1:], s[:32], s[:31], "", "BKP\x01"} {
			if y, e := Decode(other); e != api.ErrForm || y != (api.Prog{}) {
				t.Errorf("%d: %q", i, other)
			}
		}
	}
	for i, x := range bad() {
		s, e := Encode(x)
		if May(x) || s != "" || e != api.ErrForm {
			t.Error(i, e)
		}
	}
	if _, e := Decode("BKP\x01" + strings.Repeat("\xff", 28) + bytes(100)); e != api.ErrForm {
		t.Error(e)
	}
}

func TestSize(t *testing.T) { // P12.2
	for i, want := range [][2]int{{1, 0}, {1, 1}, {1, 0}, {1, 1}, {8, 18}, {6, 5}, {2, 17}, {1, 1}, {1, 1}} {
		if a, b := Size(good()[i]); a != want[0] || b != want[1] {
			t.Error(i, a, b)
		}
	}
	for i, x := range bad() {
		if a, b := Size(x); a != 0 || b != 0 {
			t.Error(i, a, b)
		}
	}
}

func TestLoad(t *testing.T) { // P12.3, P12.4
	for i, x := range good() {
		p := pool(t, 64)
		for range 3 {
			p.Take()
		}
		root, h, end, e := Load(p, x)
		text, data := Size(x)
		if e != api.OK || root != 3 {
			t.Fatal(i, e)
		}
		want := api.Hart{PC: uint64(256 + x.Entry)}
		want.X[2] = 64 * 256
		if h != want || end != uint64(256*(1+text)+len(x.Data)+x.Bss) {
			t.Error(i, h, end)
		}
		var pages []int
		for n := 1; n <= text+data; n++ {
			pages = append(pages, n)
		}
		for n := 56; n < 64; n++ {
			pages = append(pages, n)
		}
		got, _ := space.Pages(p, root)
		if !slices.Equal(got, pages) || 64-3-p.Left() != len(pages)+4 {
			t.Error(i, got, p.Left())
		}
		pad := func(s string, n int) string { return s + strings.Repeat("\x00", 256*n-len(s)) }
		whole := pad(x.Text, text) + pad(x.Data, data) + pad("", 8)
		for k, page := range pages {
			at := uint64(256 * page)
			s, e := space.In(p, root, at, 256)
			if s != whole[256*k:256*k+256] || e != api.OK {
				t.Errorf("%d: page %d: %q", i, page, s)
			}
			leaf, _ := walk.Leaf(p.Mem(), root, at)
			entry, _ := p.Mem().Load(leaf, 8)
			bits := uint64(api.PteV | api.PteU | api.PteR | api.PteW)
			if page <= text {
				bits = api.PteV | api.PteU | api.PteR | api.PteX
			}
			if entry%1024 != bits {
				t.Error(i, page, entry)
			}
		}
	}
}

func TestLoadNot(t *testing.T) { // P12.3
	none := func(p *frames.Pool, x api.Prog, want api.Errno) {
		t.Helper()
		if root, h, end, e := Load(p, x); root != 0 || h != (api.Hart{}) || end != 0 || e != want {
			t.Error(root, end, e)
		}
	}
	none(nil, good()[0], api.ErrArg)
	none(nil, api.Prog{}, api.ErrArg)
	for _, x := range bad() {
		p := pool(t, 4)
		none(p, x, api.ErrForm)
	}
	for i, x := range good() {
		text, data := Size(x)
		need := text + data + 8 + 4
		p := pool(t, need+2)
		for range 3 {
			p.Take()
		}
		p.Mem().Put(256*uint64(need), strings.Repeat("x", 300))
		before, _ := p.Mem().Get(0, 256*(need+2))
		none(p, x, api.ErrFull)
		if after, _ := p.Mem().Get(0, 256*(need+2)); after != before || p.Left() != need-1 {
			t.Error(i, "something changed")
		}
		p.Give(0)
		if _, _, _, e := Load(p, x); e != api.OK || p.Left() != 0 {
			t.Error(i, e, p.Left())
		}
	}
}

func TestExamples(t *testing.T) {
	for _, c := range []struct {
		x     api.Prog
		pages []int
		end   uint64
	}{{api.Prog{Text: bytes(4), Bss: 1}, []int{1, 2, 56, 57, 58, 59, 60, 61, 62, 63}, 513}, {api.Prog{Text: bytes(256)}, []int{1, 56, 57, 58, 59, 60, 61, 62, 63}, 512}} {
		p := pool(t, 64)
		root, _, end, e := Load(p, c.x)
		pages, _ := space.Pages(p, root)
		if e != api.OK || end != c.end || !slices.Equal(pages, c.pages) {
			t.Error(pages, end, e)
		}
	}
}
