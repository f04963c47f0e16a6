package log

import (
	"fmt"
	"slices"
	"strings"
	"testing"

	"binnacle/api"
	"binnacle/disk"
)

func filled(c string) string { return strings.Repeat(c, api.SectorSize) }

func fresh(t *testing.T, n int) *disk.Disk {
	t.Helper()
	d, e := disk.New(n)
	if e != api.OK {
		t.Fatal(e)
	}
	return d
}

func open(t *testing.T, d *disk.Disk) *Log {
	t.Helper()
	l, e := Open(d)
	if l == nil || e != api.OK {
		t.Fatal(e)
	}
	return l
}

func ok(t *testing.T, e api.Errno) {
	t.Helper()
	if e != api.OK {
		t.Fatal(e)
	}
}

func has(t *testing.T, l *Log, i int, c string) {
	t.Helper()
	if s, e := l.Get(i); s != filled(c) || e != api.OK {
		t.Fatalf("home sector %d: %q %d", i, s, e)
	}
}

// homes are all home sectors.
func homes(t *testing.T, l *Log) []string {
	t.Helper()
	var out []string
	for i := range l.Home() {
		s, e := l.Get(i)
		ok(t, e)
		out = append(out, s)
	}
	return out
}

// headOf is a sector with such bytes first.
func headOf(first ...byte) string {
	return string(first) + strings.Repeat("\x00", api.SectorSize-len(first))
}

func TestNil(t *testing.T) { // chapter 7's words
	if l, e := Open(nil); l != nil || e != api.ErrArg {
		t.Error("Open", e)
	}
	var l *Log
	l.Abort()
	s, e := l.Get(0)
	if s != "" || e != api.ErrArg || l.Set(0, filled("a")) != api.ErrArg || l.Commit() != api.ErrArg || l.Home() != 0 || l.Staged() != 0 {
		t.Error("of none")
	}
}

func TestSetAndGet(t *testing.T) { // P7.2
	d := fresh(t, 48)
	l := open(t, d)
	if l.Home() != 16 || open(t, fresh(t, 544)).Home() != 512 {
		t.Error("Home")
	}
	ok(t, l.Set(0, filled("a")))
	ok(t, l.Set(5, filled("b")))
	ok(t, l.Set(5, filled("c")))
	has(t, l, 5, "c")
	has(t, l, 1, "\x00")
	if l.Staged() != 2 || d.Waiting() != 0 {
		t.Error("Staged")
	}
	for _, i := range []int{-1, 16, 1 << 60, -1 << 63} {
		if s, e := l.Get(i); s != "" || e != api.ErrArg || l.Set(i, filled("a")) != api.ErrArg {
			t.Error(i, e)
		}
	}
	for _, s := range []string{"", filled("a")[1:], filled("a") + "a"} {
		if l.Set(1, s) != api.ErrArg {
			t.Error(len(s))
		}
	}
	l.Abort()
	has(t, l, 5, "\x00")
	if l.Staged() != 0 || l.Commit() != api.OK || d.Waiting() != 0 {
		t.Error("Abort")
	}
}

func TestFull(t *testing.T) { // P7.2
	d := fresh(t, 100)
	l := open(t, d)
	for i := range 30 {
		ok(t, l.Set(2*i, filled("a")))
	}
	if l.Set(1, filled("b")) != api.ErrFull || l.Set(1, "b") != api.ErrArg || l.Set(68, filled("b")) != api.ErrArg || l.Staged() != 30 {
		t.Error("a sector more")
	}
	ok(t, l.Set(58, filled("b")))
	ok(t, l.Commit())
	has(t, l, 58, "b")
	has(t, l, 56, "a")
	ok(t, l.Set(1, filled("b")))
}

// acts are the disk's at each of which the power can go, told by the sectors that differ or wait.
func acts(t *testing.T, sets map[int]string, power int) *disk.Disk {
	t.Helper()
	d := fresh(t, 48)
	l := open(t, d)
	for i, c := range sets {
		ok(t, l.Set(i, filled(c)))
	}
	d.Power(power)
	l.Commit()
	return d
}

func TestCommitActs(t *testing.T) { // P7.3
	sets := map[int]string{5: "b", 0: "a"}
	held := func(d *disk.Disk) string { // what an image has, sector by sector
		out := ""
		for i, s := range d.Image() {
			if s != filled("\x00") {
				out += fmt.Sprintf("%d:%q ", i, strings.TrimRight(s, "\x00")[:1])
			}
		}
		return out
	}
	stored := "2:\"a\" 3:\"b\" "
	pointed := "1:\"\\x02\" " + stored
	done := "32:\"a\" 37:\"b\" "
	for power, want := range []struct {
		safe    string
		waiting int
	}{{"", 0}, {"", 1}, {"", 2}, {stored, 0}, {stored, 1}, {pointed, 0}, {pointed, 1}, {pointed, 2}, {pointed + done, 0}, {pointed + done, 1}, {stored + done, 0}, {stored + done, 0}} {
		d := acts(t, sets, power)
		if held(d) != want.safe || d.Waiting() != want.waiting {
			t.Errorf("%d: %s, %d wait", power, held(d), d.Waiting())
		}
	}
	if got := acts(t, sets, 5).Image()[1]; got != headOf(2, 0, 0, 5, 0) {
		t.Errorf("%q", got)
	}
	d := fresh(t, 544)
	l := open(t, d)
	ok(t, l.Set(511, filled("z")))
	d.Power(3)
	if l.Commit() != api.ErrDead {
		t.Error("Commit")
	}
	d.Crash(1)
	if d.Image()[1] != headOf(1, 255, 1) {
		t.Errorf("%q", d.Image()[1])
	}
}

func TestDead(t *testing.T) { // chapter 7's words, P7.3
	for power := range 10 {
		d := fresh(t, 48)
		l := open(t, d)
		ok(t, l.Set(0, filled("a")))
		ok(t, l.Set(5, filled("b")))
		d.Power(power)
		if l.Commit() != api.ErrDead {
			t.Fatal(power)
		}
		for range 2 {
			s, e := l.Get(0)
			_, f := l.Get(99)
			if s != "" || e != api.ErrDead || f != api.ErrDead || l.Set(0, filled("a")) != api.ErrDead || l.Set(99, "") != api.ErrDead || l.Commit() != api.ErrDead || l.Staged() != 0 || l.Home() != 16 {
				t.Error(power, e)
			}
			l.Abort()
			d.Crash(0) // with power again the log stays dead
		}
	}
	d := fresh(t, 48)
	l := open(t, d)
	ok(t, l.Set(0, filled("a")))
	ok(t, l.Set(1, filled("b")))
	d.Power(10)
	ok(t, l.Commit())
	ok(t, l.Set(2, filled("c")))
	if l.Staged() != 1 {
		t.Error("not dead")
	}
}

func TestReadError(t *testing.T) { // P7.1, P7.2
	d := fresh(t, 48)
	l := open(t, d)
	ok(t, l.Set(0, filled("a")))
	d.Power(0)
	d.Flush()
	if _, e := l.Get(1); e != api.ErrDead {
		t.Error("what the disk answers", e)
	}
	has(t, l, 0, "a")
	if l, e := Open(d); l != nil || e != api.ErrDead {
		t.Error("Open", e)
	}
}

func TestHeads(t *testing.T) { // P7.1
	good := [][]byte{{}, {1, 0, 0}, {1, 15, 0}, {2, 0, 0, 1, 0}, {3, 1, 0, 5, 0, 9, 0}}
	bad := [][]byte{{0, 1}, {1, 16, 0}, {1, 0, 1}, {2, 1, 0, 1, 0}, {2, 5, 0, 1, 0}, {1, 0, 0, 1}, {31}, {255}, {2, 0, 0}, append([]byte{1, 3, 0}, []byte(strings.Repeat("\x00", 60)+"\x01")...)}
	for i, row := range append(good, bad...) {
		d := fresh(t, 48)
		ok(t, d.Write(1, headOf(row...)))
		for k := range 30 {
			ok(t, d.Write(2+k, filled(string(rune('a'+k)))))
		}
		ok(t, d.Flush())
		before := d.Image()
		l, e := Open(d)
		if i >= len(good) {
			if l != nil || e != api.ErrForm || !slices.Equal(d.Image(), before) {
				t.Errorf("%v: %d", row, e)
			}
			continue
		}
		if e != api.OK {
			t.Fatalf("%v: %d", row, e)
		}
		want := slices.Repeat([]string{filled("\x00")}, 16)
		for k := 0; 2*k+1 < len(row); k++ {
			want[row[2*k+1]] = filled(string(rune('a' + k)))
		}
		if !slices.Equal(homes(t, l), want) || d.Waiting() != 0 || d.Image()[1] != filled("\x00") || l.Staged() != 0 {
			t.Errorf("%v", row)
		}
	}
	d := fresh(t, 100)
	var row []byte
	for k := range 30 {
		row = append(row, byte(2*k), 0)
	}
	ok(t, d.Write(1, headOf(append([]byte{30}, row...)...)))
	open(t, d)
}

func TestRedoActs(t *testing.T) { // P7.1
	for power := range 6 {
		d := fresh(t, 48)
		ok(t, d.Write(1, headOf(2, 3, 0, 4, 0)))
		ok(t, d.Write(2, filled("a")))
		ok(t, d.Write(3, filled("b")))
		ok(t, d.Flush())
		d.Power(power)
		l, e := Open(d)
		if power < 5 && (l != nil || e != api.ErrDead) || power == 5 && e != api.OK {
			t.Error(power, e)
		}
		if done := d.Image()[35] == filled("a") && d.Image()[36] == filled("b"); done != (power > 2) {
			t.Error(power, "redone", done)
		}
		if cleared := d.Image()[1] == filled("\x00"); cleared != (power > 4) {
			t.Error(power, "cleared", cleared)
		}
	}
	d := fresh(t, 48) // a head of none is no reason to act
	d.Power(0)
	open(t, d)
}

func TestAllOrNothing(t *testing.T) { // P7.4
	before, after := slices.Repeat([]string{filled("o")}, 16), slices.Repeat([]string{filled("o")}, 16)
	for _, i := range []int{1, 2, 7, 15} {
		after[i] = filled("n")
	}
	for power := range 16 {
		for keep := range uint64(32) {
			for again := range 9 { // acts of the first opening
				d := fresh(t, 48)
				l := open(t, d)
				for i := range 16 {
					ok(t, l.Set(i, before[i]))
				}
				ok(t, l.Commit())
				for i := range 16 {
					if after[i] != before[i] {
						ok(t, l.Set(i, after[i]))
					}
				}
				d.Power(power)
				e := l.Commit()
				d.Crash(keep)
				d.Power(again)
				Open(d)
				d.Crash(keep >> 1)
				got := homes(t, open(t, d))
				if !slices.Equal(got, after) && (e == api.OK || !slices.Equal(got, before)) {
					t.Fatal(power, keep, again)
				}
			}
		}
	}
}

func TestExamples(t *testing.T) { // P7.2 to P7.4
	d := acts(t, map[int]string{0: "a", 5: "b"}, 10)
	if d.Image()[32] != filled("a") || d.Flush() != api.ErrDead {
		t.Error("ten acts")
	}
	for keep, c := range []string{"\x00", "a"} {
		d := acts(t, map[int]string{0: "a", 5: "b"}, 4)
		d.Crash(uint64(keep))
		has(t, open(t, d), 0, c)
	}
}
