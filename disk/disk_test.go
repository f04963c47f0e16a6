package disk

import (
	"slices"
	"strings"
	"testing"

	"binnacle/api"
)

func sector(c string) string { return strings.Repeat(c, api.SectorSize) }

func fresh(t *testing.T, n int) *Disk {
	t.Helper()
	d, e := New(n)
	if d == nil || e != api.OK {
		t.Fatal(n, e)
	}
	return d
}

// reads fails, unless the sector i is read as so many bytes c.
func reads(t *testing.T, d *Disk, i int, c string) {
	t.Helper()
	if s, e := d.Read(i); s != sector(c) || e != api.OK {
		t.Fatalf("sector %d: %q %d", i, s, e)
	}
}

func ok(t *testing.T, e api.Errno) {
	t.Helper()
	if e != api.OK {
		t.Fatal(e)
	}
}

func TestNew(t *testing.T) { // P6.1
	for _, n := range []int{48, 49, 544} {
		d := fresh(t, n)
		reads(t, d, 0, "\x00")
		reads(t, d, n-1, "\x00")
		if d.Sectors() != n || d.Waiting() != 0 || len(d.Image()) != n {
			t.Error(n)
		}
	}
	for _, n := range []int{47, 545, 0, -1, 1 << 60, -1 << 63} {
		if d, e := New(n); d != nil || e != api.ErrArg {
			t.Error(n, e)
		}
	}
}

func TestOf(t *testing.T) { // P6.1, R3
	image := slices.Repeat([]string{sector("x")}, 48)
	image[7] = sector("y")
	d, e := Of(image)
	if e != api.OK || d.Sectors() != 48 || d.Waiting() != 0 {
		t.Fatal(e)
	}
	image[7] = "gone"
	reads(t, d, 7, "y")
	reads(t, d, 8, "x")
	for _, bad := range [][]string{nil, slices.Repeat([]string{sector("x")}, 47), slices.Repeat([]string{sector("x")}, 545), append(slices.Repeat([]string{sector("x")}, 47), "x"), append(slices.Repeat([]string{sector("x")}, 47), sector("x")+"x"), image} {
		if d, e := Of(bad); d != nil || e != api.ErrArg {
			t.Error(len(bad), e)
		}
	}
	got := d.Image()
	got[7] = "gone"
	reads(t, d, 7, "y")
	if d.Image()[7] != sector("y") {
		t.Error("the image is the disk's own")
	}
}

func TestNil(t *testing.T) { // P6.1
	var d *Disk
	d.Power(3)
	d.Crash(1)
	s, e := d.Read(0)
	if s != "" || e != api.ErrArg || d.Write(0, sector("a")) != api.ErrArg || d.Flush() != api.ErrArg || d.Sectors() != 0 || d.Waiting() != 0 || d.Image() != nil {
		t.Error("of none")
	}
}

func TestReadAndWrite(t *testing.T) { // P6.2, P6.3, P6.6
	d := fresh(t, 48)
	ok(t, d.Write(3, sector("a")))
	ok(t, d.Write(4, sector("b")))
	ok(t, d.Write(3, sector("c")))
	reads(t, d, 3, "c")
	reads(t, d, 4, "b")
	reads(t, d, 5, "\x00")
	if d.Waiting() != 3 || d.Image()[3] != sector("\x00") {
		t.Error("what waits is not safe")
	}
	ok(t, d.Flush())
	if d.Waiting() != 0 || d.Image()[3] != sector("c") || d.Image()[4] != sector("b") {
		t.Error("what was flushed is safe")
	}
	for _, i := range []int{-1, 48, 1 << 60, -1 << 63} {
		if s, e := d.Read(i); s != "" || e != api.ErrArg || d.Write(i, sector("a")) != api.ErrArg {
			t.Error(i, e)
		}
	}
	for _, s := range []string{"", "a", sector("a")[1:], sector("a") + "a"} {
		if d.Write(3, s) != api.ErrArg {
			t.Error(len(s))
		}
	}
	if d.Waiting() != 0 {
		t.Error("what was refused waits")
	}
}

func TestPower(t *testing.T) { // P6.3, P6.4
	d := fresh(t, 48)
	d.Power(2)
	ok(t, d.Write(1, sector("a")))
	if d.Write(99, sector("a")) != api.ErrArg {
		t.Error("a sector that isn't there takes no power")
	}
	ok(t, d.Flush())
	if s, e := d.Read(1); e != api.OK || s != sector("a") {
		t.Error("not off yet", e)
	}
	if d.Write(99, sector("b")) != api.ErrArg || d.Write(1, sector("b")) != api.ErrDead {
		t.Error("no power for a third act")
	}
	if s, e := d.Read(1); s != "" || e != api.ErrDead {
		t.Error("off", e)
	}
	if _, e := d.Read(99); e != api.ErrDead || d.Write(99, "") != api.ErrDead || d.Flush() != api.ErrDead {
		t.Error("off, ahead of all else")
	}
	d.Power(5)
	d.Power(-1)
	if d.Flush() != api.ErrDead || d.Sectors() != 48 || d.Waiting() != 0 || d.Image()[1] != sector("a") {
		t.Error("a disk that is off stays so")
	}
	d.Crash(0)
	for range 100 {
		ok(t, d.Flush())
	}
	d.Power(0)
	if d.Flush() != api.ErrDead {
		t.Error("no power")
	}
	d.Crash(0)
	d.Power(0)
	d.Power(-7)
	ok(t, d.Flush())
	d.Power(1)
	d.Power(1)
	ok(t, d.Flush())
	if d.Flush() != api.ErrDead {
		t.Error("so many acts more, not besides those there were")
	}
}

func TestCrash(t *testing.T) { // P6.5, P6.7
	for _, keep := range []uint64{0, 1, 2, 3, 4, 1 << 63, ^uint64(0), 0xa5} {
		d := fresh(t, 48)
		want := d.Image()
		d.Power(100)
		for i := range 70 {
			c := string(rune('A' + i%26))
			ok(t, d.Write(i%5, sector(c)))
			if keep>>(i%64)&1 == 1 {
				want[i%5] = sector(c)
			}
		}
		d.Crash(keep)
		if d.Waiting() != 0 || !slices.Equal(d.Image(), want) {
			t.Errorf("%x", keep)
		}
		for i := range 48 {
			if s, e := d.Read(i); s != want[i] || e != api.OK {
				t.Errorf("%x: %d", keep, i)
			}
		}
		for range 200 {
			ok(t, d.Flush())
		}
	}
}

func TestExamples(t *testing.T) { // P6.2 to P6.5
	d := fresh(t, 48)
	ok(t, d.Write(3, sector("a")))
	reads(t, d, 3, "a")
	if d.Image()[3] != sector("\x00") {
		t.Error("safe")
	}
	d.Crash(0)
	reads(t, d, 3, "\x00")
	ok(t, d.Write(3, sector("a")))
	ok(t, d.Write(3, sector("b")))
	d.Crash(1)
	reads(t, d, 3, "a")
	d.Power(1)
	ok(t, d.Write(3, sector("c")))
	if d.Flush() != api.ErrDead || d.Waiting() != 1 {
		t.Error("Flush")
	}
	if _, e := d.Read(3); e != api.ErrDead {
		t.Error("Read")
	}
	d.Crash(1)
	reads(t, d, 3, "c")
}
