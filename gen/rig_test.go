package gen

import (
	"testing"

	"binnacle/api"
	"binnacle/disk"
	"binnacle/front"
	"binnacle/kern"
	"binnacle/mean"
	"binnacle/prog"
	"binnacle/tree"
)

func ok(t *testing.T, e api.Errno) {
	t.Helper()
	if e != api.OK {
		t.Fatal(e)
	}
}

func parse(t *testing.T, s string) api.Source {
	t.Helper()
	x, e, at := front.Parse(s)
	if e != api.OK {
		t.Fatal(s, e, at)
	}
	return x
}

// boot is a kernel whose /init is that program.
func boot(t *testing.T, x api.Prog) *kern.Kernel {
	t.Helper()
	s, e := prog.Encode(x)
	ok(t, e)
	d, e := disk.New(120)
	ok(t, e)
	files, e := tree.Format(d)
	ok(t, e)
	n, e := files.Make(0, "/init", api.KindFile)
	ok(t, e)
	for off := 0; off < len(s); off += api.MaxWrite {
		ok(t, files.Write(n, off, s[off:min(off+api.MaxWrite, len(s))]))
	}
	k, e := kern.Boot(d, 64, 1)
	ok(t, e)
	return k
}

// used is how much fuel a run needs to come to what it comes to with all.
func used(t *testing.T, tree api.Source, in string, want api.Ran) int {
	t.Helper()
	low, high := 0, api.MaxFuel
	for low < high {
		mid := (low + high) / 2
		r, e := mean.Run(tree, nil, in, mid)
		ok(t, e)
		if r == want {
			high = mid
		} else {
			low = mid + 1
		}
	}
	return low
}

// does fails, unless a tree's program does on the machine what the tree means.
func does(t *testing.T, s string, tree api.Source, in string) api.Ran {
	t.Helper()
	x, e := Compile(tree)
	if e != api.OK {
		t.Fatalf("%s\n%d, weight %d", s, e, Weight(tree))
	}
	want, e := mean.Run(tree, nil, in, api.MaxFuel)
	ok(t, e)
	if want.Kind == api.RanWrong || want.Kind == api.RanFuel {
		return want
	}
	k := boot(t, x)
	k.Input(in)
	for range 60*used(t, tree, in, want) + 60 {
		k.Run(0)
	}
	if k.Console() != want.Out {
		t.Fatalf("%s\nprinted %q, not %q", s, k.Console(), want.Out)
	}
	row := k.Table()[0]
	if want.Kind == api.RanDone && (row.State != api.ProcDone || int64(row.Status) != want.Status) {
		t.Fatalf("%s\n%v, not %d", s, row, want.Status)
	}
	if want.Kind == api.RanWaits {
		for range 500 {
			k.Run(0)
		}
		if row := k.Table()[0]; row.State != api.ProcLive || k.Console() != want.Out {
			t.Fatalf("%s\n%v %q", s, row, k.Console())
		}
	}
	return want
}
