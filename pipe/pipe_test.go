package pipe

import (
	"math/rand"
	"strings"
	"testing"

	"binnacle/api"
)

const (
	most  = int(^uint(0) >> 1)
	least = -most - 1
)

func TestWrite(t *testing.T) { // P13.1
	full := strings.Repeat("x", 64)
	for _, c := range []struct {
		p   api.Pipe
		s   string
		buf string
		n   int
		e   api.Errno
	}{
		{api.Pipe{Buf: "ab", Readers: 1, Writers: 1}, "cd", "abcd", 2, 0},
		{api.Pipe{Buf: full[1:], Readers: 1}, "xy", full, 1, 0},
		{api.Pipe{Readers: 9}, full + "y", full, 64, 0},
		{api.Pipe{Readers: 9}, "", "", 0, 0},
		{api.Pipe{Buf: full, Readers: 1}, "", full, 0, 0},
		{api.Pipe{Buf: full + "zz", Readers: 1}, "", full + "zz", 0, 0},
		{api.Pipe{Buf: full, Readers: 1, Writers: 1}, "x", full, 0, api.ErrBusy},
		{api.Pipe{Buf: full + "zz", Readers: 1, Writers: 1}, "x", full + "zz", 0, api.ErrBusy},
	} {
		want := c.p
		want.Buf = c.buf
		if p, n, e := Write(c.p, c.s); p != want || n != c.n || e != c.e {
			t.Error(c, p, n, e)
		}
	}
	for _, readers := range []int{0, -1, least} {
		for _, s := range []string{"", "x", full + full} {
			if p, n, e := Write(api.Pipe{Buf: full, Readers: readers, Writers: 1}, s); p != (api.Pipe{}) || n != 0 || e != api.ErrPipe {
				t.Error(readers, p, n, e)
			}
		}
	}
}

func TestRead(t *testing.T) { // P13.2
	for _, c := range []struct {
		p      api.Pipe
		most   int
		s, buf string
		e      api.Errno
	}{
		{api.Pipe{Buf: "abcd", Readers: 1, Writers: 1}, 3, "abc", "d", 0},
		{api.Pipe{Buf: "abcd"}, 4, "abcd", "", 0},
		{api.Pipe{Buf: "abcd", Writers: 1}, 5, "abcd", "", 0},
		{api.Pipe{Buf: "abcd", Writers: 1}, most, "abcd", "", 0},
		{api.Pipe{Buf: "abcd", Writers: 1}, 0, "", "abcd", 0},
		{api.Pipe{Writers: 1}, 0, "", "", 0},
		{api.Pipe{Writers: 0, Readers: 1}, 5, "", "", 0},
		{api.Pipe{Writers: -1}, 5, "", "", 0},
		{api.Pipe{Writers: 1}, 5, "", "", api.ErrBusy},
	} {
		want := c.p
		want.Buf = c.buf
		if p, s, e := Read(c.p, c.most); p != want || s != c.s || e != c.e {
			t.Error(c, p, s, e)
		}
	}
	for _, n := range []int{-1, least} {
		if p, s, e := Read(api.Pipe{Buf: "ab", Writers: 1}, n); p != (api.Pipe{}) || s != "" || e != api.ErrArg {
			t.Error(n, p, s, e)
		}
	}
}

func TestOpen(t *testing.T) { // P13.3
	for _, c := range []struct {
		r, w, readers, writers int
		ok                     bool
	}{
		{0, 0, 1, 1, true}, {1, 1, -1, 0, true}, {1, 1, -1, -1, true}, {0, 0, 1024, 1024, true}, {1000, 0, 24, 0, true}, {1000, 0, 25, 0, false}, {0, 1024, 0, 1, false}, {0, 0, -1, 0, false}, {0, 0, 1, -1, false}, {most, 0, 1, 0, false}, {1, 0, most, 0, false}, {least, 0, -1, 0, false}, {0, 5, 0, least, false}, {least, 5, most, 0, false}, {-5, -6, 5, 6, true}, {-5, 0, 4, 0, false}, {most, most, -most, 1 - most, true}, {0, 0, 0, 0, true}, {-1, 0, 0, 0, false}, {2000, 0, -977, 0, true},
	} {
		p := api.Pipe{Buf: "ab", Readers: c.r, Writers: c.w}
		want, e := p, api.ErrArg
		if c.ok {
			want, e = api.Pipe{Buf: "ab", Readers: c.r + c.readers, Writers: c.w + c.writers}, api.OK
		}
		if got, f := Open(p, c.readers, c.writers); got != want || f != e {
			t.Error(c, got, f)
		}
	}
}

// TestOrder: bytes come out as they went in.
func TestOrder(t *testing.T) { // P13.4
	r := rand.New(rand.NewSource(1))
	p, _ := Open(api.Pipe{}, 1, 1)
	in, out := "", ""
	for range 2000 {
		s := ""
		for range r.Intn(90) {
			s += string(rune('a' + r.Intn(26)))
		}
		q, n, e := Write(p, s)
		if e == api.OK {
			in += s[:n]
		}
		p = q
		q, s, e = Read(p, r.Intn(70))
		if e == api.OK {
			out += s
		}
		p = q
		if in != out+p.Buf || len(p.Buf) > 64 {
			t.Fatal("lost or doubled")
		}
	}
}
