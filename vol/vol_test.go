package vol

import (
	"fmt"
	"math/rand"
	"strings"
	"testing"

	"binnacle/api"
	"binnacle/disk"
	"binnacle/log"
)

func ok(t *testing.T, e api.Errno) {
	t.Helper()
	if e != api.OK {
		t.Fatal(e)
	}
}

func is(t *testing.T, what string, e, want api.Errno) {
	t.Helper()
	if e != want {
		t.Errorf("%s: %d, not %d", what, e, want)
	}
}

func newLog(t *testing.T, sectors int) (*disk.Disk, *log.Log) {
	t.Helper()
	d, e := disk.New(sectors)
	ok(t, e)
	l, e := log.Open(d)
	ok(t, e)
	return d, l
}

func fresh(t *testing.T, sectors int) (*disk.Disk, *log.Log, *Vol) {
	t.Helper()
	d, l := newLog(t, sectors)
	v, e := Format(l)
	ok(t, e)
	ok(t, l.Commit())
	return d, l, v
}

// make1 is a new file with so many bytes.
func make1(t *testing.T, l *log.Log, v *Vol, s string) int {
	t.Helper()
	n, e := v.New(api.KindFile)
	ok(t, e)
	for off := 0; off < len(s); off += api.MaxWrite {
		ok(t, v.Write(n, off, s[off:min(off+api.MaxWrite, len(s))]))
		ok(t, l.Commit())
	}
	ok(t, l.Commit())
	return n
}

// all are all home sectors.
func all(t *testing.T, l *log.Log) string {
	t.Helper()
	out := ""
	for i := range l.Home() {
		s, e := l.Get(i)
		ok(t, e)
		out += s
	}
	return out
}

// text are so many bytes, no two sectors alike.
func text(n int) string {
	var b strings.Builder
	for i := 0; b.Len() < n; i++ {
		fmt.Fprintf(&b, "%d.", i)
	}
	return b.String()[:n]
}

// sound tells, from the bytes alone, whether a volume is whole.
func sound(s string) error {
	home := len(s) / 64
	two := func(at int) int { return int(s[at]) | int(s[at+1])<<8 }
	had := map[int]int{}
	for n := range 32 {
		at := 64 + 16*n
		row := s[at : at+16]
		if row == strings.Repeat("\x00", 16) {
			continue
		}
		size := two(at + 2)
		if row[0] != 1 && row[0] != 2 || size > 2368 {
			return fmt.Errorf("inode %d: %q", n, row)
		}
		m := (size + 63) / 64
		places := []int{}
		for k := range 5 {
			places = append(places, two(at+4+2*k))
		}
		in := two(at + 14)
		if (m > 5) != (in != 0) || in >= home {
			return fmt.Errorf("inode %d: indirect %d of %d", n, in, m)
		}
		if in != 0 {
			had[in]++
			for k := range 32 {
				places = append(places, two(64*in+2*k))
			}
		}
		for k, i := range places {
			if (k < m) != (i != 0) || i != 0 && (i < 9 || i >= home) {
				return fmt.Errorf("inode %d: %v", n, places)
			}
			if i != 0 {
				had[i]++
			}
		}
	}
	for i := range 512 {
		used := s[i/8]>>(i%8)&1 == 1
		want := i < 9 || had[i] > 0
		if had[i] > 1 || used != want {
			return fmt.Errorf("home sector %d: %d times, %v", i, had[i], used)
		}
	}
	return nil
}

func TestNil(t *testing.T) { // chapter 8's promises
	var v *Vol
	_, e1 := v.New(1)
	_, e2 := v.Stat(0)
	s, e3 := v.Read(0, 0, 0)
	n, e4 := v.Room()
	for i, e := range []api.Errno{e1, e2, e3, e4, v.Free(0), v.Link(0, 0), v.Write(0, 0, ""), v.Cut(0, 0)} {
		is(t, fmt.Sprint(i), e, api.ErrArg)
	}
	if s != "" || n != 0 {
		t.Error("of none")
	}
	if v, e := Format(nil); v != nil || e != api.ErrArg {
		t.Error(e)
	}
	if v, e := Mount(nil); v != nil || e != api.ErrArg {
		t.Error(e)
	}
}

func TestFormat(t *testing.T) { // P8.1
	_, l := newLog(t, 48)
	for i := range 9 {
		ok(t, l.Set(i, strings.Repeat("x", 64)))
	}
	if v, e := Format(l); v != nil || e != api.ErrFull || l.Staged() != 9 {
		t.Error(e)
	}
	ok(t, l.Commit())
	_, e := Format(l)
	ok(t, e)
	if l.Staged() != 9 || all(t, l)[:576] != "\xff\x01"+strings.Repeat("\x00", 574) {
		t.Error("Format", l.Staged())
	}
	_, l = newLog(t, 48)
	_, e = Format(l)
	ok(t, e)
	if l.Staged() != 9 {
		t.Error("nine sectors, also of noughts", l.Staged())
	}
}

func TestDead(t *testing.T) { // chapter 8's promises, P8.1
	d, l, v := fresh(t, 48)
	n := make1(t, l, v, "abc")
	ok(t, v.Link(n, 1))
	d.Power(0)
	is(t, "Commit", l.Commit(), api.ErrDead)
	d.Crash(0)
	w, e := Format(l)
	u, f := Mount(l)
	if w != nil || u != nil || e != api.ErrDead || f != api.ErrDead {
		t.Error(e, f)
	}
	_, e1 := v.New(7)
	st, e2 := v.Stat(-1)
	s, e3 := v.Read(n, -1, 0)
	room, e4 := v.Room()
	for i, e := range []api.Errno{e1, e2, e3, e4, v.Free(99), v.Link(n, 1000), v.Write(n, -1, ""), v.Cut(n, 99)} {
		is(t, fmt.Sprint(i), e, api.ErrDead)
	}
	if st != (api.Stat{}) || s != "" || room != 0 {
		t.Error("with an error nothing is told")
	}
}

func TestOff(t *testing.T) { // a disk that is off, behind a log that isn't dead
	d, l, v := fresh(t, 60)
	n := make1(t, l, v, text(400))
	d.Power(0)
	d.Flush()
	_, e1 := v.New(1)
	_, e2 := v.Stat(n)
	_, e3 := v.Read(n, 0, 9)
	_, e4 := v.Room()
	for i, e := range []api.Errno{e1, e2, e3, e4, v.Free(n), v.Link(n, 1), v.Write(n, 0, "x"), v.Cut(n, 0)} {
		is(t, fmt.Sprint(i), e, api.ErrDead)
	}
	if _, e := Mount(l); e != api.ErrDead || l.Staged() != 0 {
		t.Error("Mount", e)
	}
}

func TestNew(t *testing.T) { // P8.2
	_, l, v := fresh(t, 48)
	for _, kind := range []int{0, 3, -1, 1 << 40} {
		n, e := v.New(kind)
		if n != 0 || e != api.ErrArg {
			t.Error(kind, e)
		}
	}
	for i := range 32 {
		n, e := v.New(1 + i%2)
		st, f := v.Stat(n)
		if n != i || e != api.OK || f != api.OK || st != (api.Stat{Kind: 1 + i%2}) {
			t.Fatal(i, n, e, st)
		}
	}
	n, e := v.New(api.KindFile)
	if n != 0 || e != api.ErrFull {
		t.Error("a 33rd", e)
	}
	ok(t, v.Free(17))
	ok(t, v.Free(30))
	if n, _ := v.New(api.KindDir); n != 17 {
		t.Error("the least one", n)
	}
	ok(t, l.Commit())
	if e := sound(all(t, l)); e != nil {
		t.Error(e)
	}
}

func TestNumbers(t *testing.T) { // P8.2 to P8.4: n, and inodes that are free
	_, _, v := fresh(t, 48)
	for _, n := range []int{-1, 32, 1 << 60, -1 << 63, 0, 31} {
		want := api.ErrArg
		if n == 0 || n == 31 {
			want = api.ErrNone
		}
		st, e1 := v.Stat(n)
		s, e2 := v.Read(n, -1, -1)
		for i, e := range []api.Errno{e1, e2, v.Free(n), v.Link(n, 999), v.Write(n, -1, strings.Repeat("x", 600)), v.Cut(n, -1)} {
			is(t, fmt.Sprint(n, i), e, want)
		}
		if st != (api.Stat{}) || s != "" {
			t.Error(n)
		}
	}
}

func TestLink(t *testing.T) { // P8.3
	_, l, v := fresh(t, 48)
	n := make1(t, l, v, "abc")
	for _, x := range []struct {
		by   int
		e    api.Errno
		then int
	}{{1, api.OK, 1}, {-2, api.ErrMany, 1}, {254, api.OK, 255}, {1, api.ErrMany, 255}, {1<<63 - 1, api.ErrMany, 255}, {-1 << 63, api.ErrMany, 255}, {0, api.OK, 255}, {-256, api.ErrMany, 255}, {-255, api.OK, 0}, {-1, api.ErrMany, 0}, {256, api.ErrMany, 0}, {255, api.OK, 255}} {
		is(t, fmt.Sprint(x.by), v.Link(n, x.by), x.e)
		if st, _ := v.Stat(n); st != (api.Stat{Kind: 1, Links: x.then, Size: 3}) {
			t.Error(x.by, st)
		}
	}
}

func TestReadAndWrite(t *testing.T) { // P8.4
	_, l, v := fresh(t, 100)
	s := text(1000)
	n := make1(t, l, v, s)
	for _, off := range []int{0, 1, 63, 64, 65, 319, 320, 321, 999, 1000, 1001, 5000, 1<<63 - 1} {
		for _, many := range []int{0, 1, 64, 65, 400, 1000, 1001, 1<<63 - 1} {
			want := ""
			if off < 1000 {
				want = s[off:]
			}
			want = want[:min(many, len(want))]
			if got, e := v.Read(n, off, many); got != want || e != api.OK {
				t.Fatalf("%d, %d: %q %d", off, many, got, e)
			}
		}
	}
	for _, x := range [][2]int{{-1, 0}, {0, -1}, {-1 << 63, 5}, {2000, -1}} {
		if got, e := v.Read(n, x[0], x[1]); got != "" || e != api.ErrArg {
			t.Error(x, e)
		}
	}
	before := all(t, l)
	is(t, "off below 0", v.Write(n, -1, "x"), api.ErrArg)
	is(t, "off behind", v.Write(n, 1001, "x"), api.ErrArg)
	is(t, "off far behind", v.Write(n, 1<<63-1, "x"), api.ErrArg)
	is(t, "too long", v.Write(n, 0, strings.Repeat("x", 513)), api.ErrArg)
	ok(t, v.Write(n, 1000, ""))
	is(t, "empty and behind", v.Write(n, 1001, ""), api.ErrArg)
	if all(t, l) != before || l.Staged() != 0 {
		t.Error("something changed")
	}
	ok(t, v.Write(n, 0, strings.Repeat("x", 512)))
	ok(t, v.Write(n, 999, "yz"))
	if got, _ := v.Read(n, 0, 2000); got != strings.Repeat("x", 512)+s[512:999]+"yz" {
		t.Error(got)
	}
}

func TestMost(t *testing.T) { // P8.4: MaxFile
	_, l, v := fresh(t, 200)
	n := make1(t, l, v, text(2368))
	before := all(t, l)
	is(t, "one more", v.Write(n, 2368, "x"), api.ErrMany)
	is(t, "beyond", v.Write(n, 2367, "xy"), api.ErrMany)
	is(t, "too long first", v.Write(n, 2368, strings.Repeat("x", 513)), api.ErrArg)
	if all(t, l) != before {
		t.Error("something changed")
	}
	ok(t, v.Write(n, 2367, "x"))
	ok(t, v.Write(n, 2368, ""))
	if room, _ := v.Room(); room != 168-9-38 {
		t.Error(room)
	}
	if _, e := Mount(l); e != api.OK {
		t.Error(e)
	}
	ok(t, v.Free(n))
	if room, _ := v.Room(); room != 168-9 {
		t.Error(room)
	}
}

func TestCut(t *testing.T) { // P8.4, P8.5
	for _, from := range []int{0, 1, 64, 320, 321, 2368} {
		for _, to := range []int{0, 1, 63, 64, 65, 320, 321, 2367, 2368} {
			_, l, v := fresh(t, 200)
			other := make1(t, l, v, text(700))
			s := text(from)
			n := make1(t, l, v, s)
			before := all(t, l)
			e := v.Cut(n, to)
			if to > from {
				is(t, "behind", e, api.ErrArg)
				if all(t, l) != before {
					t.Error("something changed")
				}
				continue
			}
			ok(t, e)
			got, _ := v.Read(n, 0, 9999)
			kept, _ := v.Read(other, 0, 9999)
			m := (to + 63) / 64
			if m > 5 {
				m++
			}
			room, _ := v.Room()
			if got != s[:to] || kept != text(700) || room != 168-9-12-m {
				t.Errorf("%d to %d: room %d", from, to, room)
			}
			if e := sound(all(t, l)); e != nil {
				t.Error(from, to, e)
			}
		}
	}
	_, l, v := fresh(t, 48)
	n := make1(t, l, v, "abc")
	is(t, "below 0", v.Cut(n, -1), api.ErrArg)
	is(t, "least", v.Cut(n, -1<<63), api.ErrArg)
}

func TestStagedTooMuch(t *testing.T) { // chapter 8's promises
	_, l, v := fresh(t, 100)
	n := make1(t, l, v, text(100))
	stage := func(from int) {
		for i := from; i < from+16; i++ {
			ok(t, l.Set(40+i-from, strings.Repeat("z", 64)))
		}
	}
	stage(0)
	ok(t, v.Write(n, 0, text(512))) // 16 are not too many
	l.Abort()
	stage(0)
	ok(t, l.Set(60, strings.Repeat("z", 64)))
	before := all(t, l)
	_, e := v.New(api.KindFile)
	for i, e := range []api.Errno{e, v.Free(n), v.Link(n, 0), v.Write(n, 0, ""), v.Write(n, 0, "x"), v.Cut(n, 100), v.Cut(n, 0)} {
		is(t, fmt.Sprint(i), e, api.ErrFull)
	}
	_, e = v.New(9)
	is(t, "New", e, api.ErrArg)
	is(t, "Free", v.Free(5), api.ErrNone)
	is(t, "Link", v.Link(n, -1), api.ErrMany)
	is(t, "Write", v.Write(n, 101, ""), api.ErrArg)
	is(t, "Cut", v.Cut(n, 101), api.ErrArg)
	if all(t, l) != before || l.Staged() != 17 {
		t.Error("something changed")
	}
	if s, e := v.Read(n, 0, 5); e != api.OK || s != text(5) {
		t.Error("Read")
	}
}

// TestMount: each of these changes of a whole volume makes it one that isn't.
func TestMount(t *testing.T) { // P8.1
	put := func(l *log.Log, i, at int, row ...byte) {
		s, _ := l.Get(i)
		ok(t, l.Set(i, s[:at]+string(row)+s[at+len(row):]))
	}
	set := func() (*log.Log, *Vol) {
		_, l, v := fresh(t, 60)
		make1(t, l, v, text(400)) // 8 sectors: inode 0
		make1(t, l, v, text(10))
		make1(t, l, v, "")
		return l, v
	}
	l, _ := set()
	w, e := Mount(l)
	ok(t, e)
	if s, _ := w.Read(0, 0, 999); s != text(400) {
		t.Error("Mount finds the same")
	}
	first, _ := l.Get(1)
	in := int(first[14])
	for i, x := range []struct{ i, at int }{{0, 0}, {0, 1}, {0, 3}, {0, 4}, {0, 63}, {1, 0}, {1, 3}, {1, 4}, {1, 5}, {1, 14}, {1, 16 + 6}, {1, 16 + 14}, {1, 32 + 4}, {1, 48 + 1}, {1, 48 + 15}, {8, 63}, {in, 0}, {in, 1}, {in, 4}, {in, 63}} {
		l, _ := set()
		s, _ := l.Get(x.i)
		put(l, x.i, x.at, s[x.at]^4)
		if v, e := Mount(l); v != nil || e != api.ErrForm {
			t.Error(i, x, e)
		}
	}
	l, _ = set()
	put(l, 1, 1, 200) // links are no matter
	_, e = Mount(l)
	ok(t, e)
	l, _ = set()
	put(l, 1, 2, 129, 1) // size 385: as many sectors
	_, e = Mount(l)
	ok(t, e)
	put(l, 1, 2, 128, 1) // 384: a sector too many
	_, e = Mount(l)
	is(t, "384", e, api.ErrForm)
	l, _ = set()
	put(l, 1, 6, first[4], 0) // twice
	_, e = Mount(l)
	is(t, "twice", e, api.ErrForm)
	l, _ = set()
	put(l, 1, 16+2, 0) // an empty one with a sector
	_, e = Mount(l)
	is(t, "empty", e, api.ErrForm)
	_, l = newLog(t, 48)
	_, e = Mount(l)
	is(t, "never formatted", e, api.ErrForm)
}

func TestExamples(t *testing.T) { // P8.4, P8.5
	_, l, v := fresh(t, 48)
	room := func(want int) {
		t.Helper()
		if n, e := v.Room(); n != want || e != api.OK {
			t.Error("Room", n, want)
		}
	}
	room(7)
	n, _ := v.New(api.KindFile)
	ok(t, v.Write(n, 0, text(65)))
	room(5)
	ok(t, v.Write(n, 65, text(255)))
	room(2)
	ok(t, v.Write(n, 320, "x"))
	room(0)
	ok(t, v.Write(n, 321, text(63)))
	before := all(t, l)
	is(t, "Write", v.Write(n, 384, "x"), api.ErrFull)
	if all(t, l) != before {
		t.Error("something changed")
	}
	ok(t, v.Cut(n, 320))
	room(2)
	is(t, "Write", v.Write(n, 400, "x"), api.ErrArg)
}

// model is what files should have: now, and at the last commit.
type model struct {
	files, kept map[int]string
}

func clone(m map[int]string) map[int]string {
	out := map[int]string{}
	for n, s := range m {
		out[n] = s
	}
	return out
}

// act does something by chance to a volume and to the model.
func (m *model) act(t *testing.T, r *rand.Rand, l *log.Log, v *Vol) {
	n := r.Intn(8)
	s, there := m.files[n]
	switch r.Intn(7) {
	case 0:
		if n, e := v.New(1 + r.Intn(2)); e == api.OK {
			m.files[n] = ""
		}
	case 1, 2, 3:
		off, more := r.Intn(len(s)+1), text(r.Intn(513))
		if e := v.Write(n, off, more); e == api.OK {
			m.files[n] = s[:off] + more + s[min(len(s), off+len(more)):]
		} else if there && e != api.ErrFull && e != api.ErrMany {
			t.Fatal(e)
		}
	case 4:
		if size := r.Intn(len(s) + 1); v.Cut(n, size) == api.OK {
			m.files[n] = s[:size]
		}
	case 5:
		if v.Free(n) == api.OK {
			delete(m.files, n)
		}
	case 6:
		if r.Intn(3) == 0 {
			l.Abort()
			m.files = clone(m.kept)
		} else {
			ok(t, l.Commit())
			m.kept = clone(m.files)
		}
	}
}

// TestModel: whatever is done, files have what was written, and the volume is whole.
func TestModel(t *testing.T) { // P8.6
	for seed := range int64(12) {
		r := rand.New(rand.NewSource(seed))
		d, l, v := fresh(t, 48+r.Intn(120))
		m := &model{map[int]string{}, map[int]string{}}
		for range 300 {
			m.act(t, r, l, v)
			for n := range 32 {
				s, there := m.files[n]
				got, e := v.Read(n, 0, 9999)
				if there != (e == api.OK) || got != s {
					t.Fatal(seed, n, e)
				}
			}
			if e := sound(all(t, l)); e != nil {
				t.Fatal(seed, e)
			}
		}
		ok(t, l.Commit())
		d.Crash(0)
		l, e := log.Open(d)
		ok(t, e)
		w, e := Mount(l)
		ok(t, e)
		for n, s := range m.files {
			if got, e := w.Read(n, 0, 9999); got != s || e != api.OK {
				t.Fatal(seed, n, e)
			}
		}
	}
}
