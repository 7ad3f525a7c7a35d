package ideal_test

import (
	"encoding/binary"
	"fmt"
	"math"
	"math/rand"
	"slices"
	"strings"
	"sync"
	"testing"

	"columbarium/api"
	"columbarium/ideal"
)

const maxCells = 2000

// sample is n bytes of all values, without a short period.
func sample(n int) string {
	b := make([]byte, n)
	rand.New(rand.NewSource(int64(n) + 8)).Read(b)
	return string(b)
}

// numbered is n bytes that are other ones for each number; the number stands at their end.
func numbered(n, i int) string {
	return strings.Repeat("#", n-4) + string(binary.BigEndian.AppendUint32(nil, uint32(i)))
}

func labelOf(i int) string { return numbered(16, i) }
func textOf(i int) string  { return numbered(24, i) }
func cellOf(i int) string  { return numbered(40, i) }

func nameOf(i int) api.Name { return api.Name{In: fmt.Sprint("in", i), Out: labelOf(i)} }

func madeOf(i int) api.Made { return api.Made{Label: labelOf(i), Text: textOf(i), Cell: cellOf(i)} }

// idealOf is one of so many names and cells, without a clash.
func idealOf(names, cells int) api.Ideal {
	d := api.Ideal{Tape: api.Tape{Bytes: sample(300), At: 7}}
	for i := range names {
		d.Names = append(d.Names, nameOf(i))
	}
	for i := range cells {
		d.Cells = append(d.Cells, madeOf(i))
	}
	return d
}

func same(a, b api.Ideal) bool {
	return a.Tape == b.Tape && a.Clash == b.Clash && slices.Equal(a.Names, b.Names) && slices.Equal(a.Cells, b.Cells)
}

// copyOf shares no list with an ideal.
func copyOf(d api.Ideal) api.Ideal {
	d.Names, d.Cells = slices.Clone(d.Names), slices.Clone(d.Cells)
	return d
}

// rightIdeals are of all kinds: with nothing, with nothing left, with as much as may be, and with clashes.
func rightIdeals() []api.Ideal {
	ends := idealOf(0, 0)
	ends.Names = []api.Name{{In: "", Out: labelOf(0)}, {In: sample(100), Out: labelOf(1)}, {In: labelOf(0), Out: labelOf(2)}, {In: strings.Repeat("ä", 50), Out: strings.Repeat("ö", 8)}}
	shared := idealOf(2, 2)
	// One text under two labels, two under one, one cell under two labels: none of it is a clash.
	shared.Cells = append(shared.Cells, api.Made{Label: labelOf(5), Text: textOf(0), Cell: cellOf(0)}, api.Made{Label: labelOf(0), Text: textOf(6), Cell: cellOf(6)})
	names := idealOf(5, 3)
	names.Names[4].Out, names.Clash = names.Names[0].Out, true
	cells := idealOf(3, 5)
	cells.Cells[4].Label, cells.Cells[4].Cell, cells.Clash = cells.Cells[0].Label, cells.Cells[0].Cell, true
	both := idealOf(2, 2)
	both.Names[1].Out, both.Clash = both.Names[0].Out, true
	both.Cells[1].Label, both.Cells[1].Cell = both.Cells[0].Label, both.Cells[0].Cell
	full := idealOf(2000, maxCells)
	fullOfClashes := idealOf(2000, maxCells)
	fullOfClashes.Names[1999].Out, fullOfClashes.Clash = fullOfClashes.Names[1998].Out, true
	most := idealOf(3, 3)
	most.Tape = api.Tape{Bytes: sample(api.MaxTape), At: 20}
	none := idealOf(3, 3)
	none.Tape.At = 300
	return []api.Ideal{{}, idealOf(0, 0), idealOf(1, 0), idealOf(0, 1), idealOf(4, 4), ends, shared, names, cells, both, full, fullOfClashes, most, none, idealOf(2000, 0), idealOf(0, maxCells), idealOf(1999, 1999)}
}

func wrongTapes() []api.Tape {
	most := sample(api.MaxTape)
	return []api.Tape{{At: 1}, {At: -1}, {Bytes: "abc", At: 4}, {Bytes: "abc", At: -1}, {Bytes: sample(100), At: math.MaxInt}, {Bytes: sample(100), At: math.MinInt}, {Bytes: most + "a"}, {Bytes: most + "a", At: 5}, {Bytes: most, At: api.MaxTape + 1}}
}

// wrongIdeals break one thing each.
func wrongIdeals() map[string]api.Ideal {
	out := map[string]api.Ideal{}
	add := func(what string, names, cells int, change func(d *api.Ideal)) {
		d := idealOf(names, cells)
		change(&d)
		out[what] = d
	}
	for i, t := range wrongTapes() {
		add(fmt.Sprint("tape ", i), 4, 4, func(d *api.Ideal) { d.Tape = t })
	}
	for _, last := range []int{0, 3} {
		at := fmt.Sprint(" of ", last)
		add("long In"+at, 4, 4, func(d *api.Ideal) { d.Names[last].In = sample(101) })
		add("In of letters of two bytes"+at, 4, 4, func(d *api.Ideal) { d.Names[last].In = strings.Repeat("ä", 51) })
		for _, n := range []int{0, 1, 15, 17, 40} {
			add(fmt.Sprint("Out of ", n, at), 4, 4, func(d *api.Ideal) { d.Names[last].Out = sample(n) })
			add(fmt.Sprint("Label of ", n, at), 4, 4, func(d *api.Ideal) { d.Cells[last].Label = sample(n) })
		}
		for _, n := range []int{0, 1, 16, 23, 25} {
			add(fmt.Sprint("Text of ", n, at), 4, 4, func(d *api.Ideal) { d.Cells[last].Text = sample(n) })
		}
		for _, n := range []int{0, 1, 24, 39, 41} {
			add(fmt.Sprint("Cell of ", n, at), 4, 4, func(d *api.Ideal) { d.Cells[last].Cell = sample(n) })
		}
		// As many bytes in all, but a label has one of the text's.
		add("Label and Text"+at, 4, 4, func(d *api.Ideal) { d.Cells[last].Label, d.Cells[last].Text = sample(17), sample(23) })
	}
	for _, clash := range []bool{false, true} {
		with := fmt.Sprint(", clash ", clash)
		add("In twice"+with, 4, 4, func(d *api.Ideal) { d.Names[3].In, d.Clash = d.Names[0].In, clash })
		add("Name twice"+with, 4, 4, func(d *api.Ideal) { d.Names[2], d.Clash = d.Names[1], clash })
		add("empty In twice"+with, 4, 4, func(d *api.Ideal) { d.Names[0].In, d.Names[3].In, d.Clash = "", "", clash })
		add("In twice of as many as may be"+with, 2000, 0, func(d *api.Ideal) { d.Names[1999].In, d.Clash = d.Names[0].In, clash })
		add("Label and Text twice"+with, 4, 4, func(d *api.Ideal) {
			d.Cells[3].Label, d.Cells[3].Text, d.Clash = d.Cells[0].Label, d.Cells[0].Text, clash
		})
		add("Cells' item twice"+with, 4, 4, func(d *api.Ideal) { d.Cells[2], d.Clash = d.Cells[1], clash })
		add("many names"+with, 2001, 4, func(d *api.Ideal) { d.Clash = clash })
		add("many cells"+with, 4, maxCells+1, func(d *api.Ideal) { d.Clash = clash })
	}
	add("many names of one label, a clash", 2001, 0, func(d *api.Ideal) { d.Names[2000].Out, d.Clash = d.Names[0].Out, true })
	add("far too many names", 100000, 0, func(d *api.Ideal) {})
	add("clash of nothing", 0, 0, func(d *api.Ideal) { d.Clash = true })
	add("no clash told", 4, 4, func(d *api.Ideal) { d.Clash = true })
	add("clash of labels untold", 4, 4, func(d *api.Ideal) { d.Names[3].Out = d.Names[0].Out })
	add("clash of cells untold", 4, 4, func(d *api.Ideal) { d.Cells[3].Label, d.Cells[3].Cell = d.Cells[0].Label, d.Cells[0].Cell })
	add("one cell under two labels told as a clash", 4, 4, func(d *api.Ideal) { d.Cells[3].Cell, d.Clash = d.Cells[0].Cell, true })
	add("a cell's label that is a name's told as a clash", 4, 4, func(d *api.Ideal) { d.Cells[3].Label, d.Clash = d.Names[0].Out, true })
	return out
}

func checkLabel(t *testing.T, d api.Ideal, in, want string, then api.Ideal, e api.Errno) {
	t.Helper()
	before := copyOf(d)
	got, n, f := ideal.Label(d, in)
	if got != want || f != e || !same(n, then) || !same(d, before) {
		t.Errorf("Label of %q, of %d names: %q, error %d, %d names, at %d, clash %v; want %q, error %d, %d names, at %d, clash %v", in, len(d.Names), got, f, len(n.Names), n.Tape.At, n.Clash, want, e, len(then.Names), then.Tape.At, then.Clash)
	}
}

func checkSeal(t *testing.T, d api.Ideal, label, text, want string, then api.Ideal, e api.Errno) {
	t.Helper()
	before := copyOf(d)
	got, n, f := ideal.Seal(d, label, text)
	if got != want || f != e || !same(n, then) || !same(d, before) {
		t.Errorf("Seal of %q, %q, of %d cells: %q, error %d, %d cells, at %d, clash %v; want %q, error %d, %d cells, at %d, clash %v", label, text, len(d.Cells), got, f, len(n.Cells), n.Tape.At, n.Clash, want, e, len(then.Cells), then.Tape.At, then.Clash)
	}
}

func checkOpen(t *testing.T, d api.Ideal, label, cell, want string, e api.Errno) {
	t.Helper()
	before := copyOf(d)
	if got, f := ideal.Open(d, label, cell); got != want || f != e || !same(d, before) {
		t.Errorf("Open of %q, %q, of %d cells: %q, error %d; want %q, error %d", label, cell, len(d.Cells), got, f, want, e)
	}
}

// withName is an ideal that has drawn a label further, as its promise says it; withCell so with a cell.
func withName(d api.Ideal, in, out string, clash bool) api.Ideal {
	d = copyOf(d)
	d.Tape.At += 16
	d.Names = append(d.Names, api.Name{In: in, Out: out})
	d.Clash = clash
	return d
}

func withCell(d api.Ideal, label, text, cell string, clash bool) api.Ideal {
	d = copyOf(d)
	d.Tape.At += 40
	d.Cells = append(d.Cells, api.Made{Label: label, Text: text, Cell: cell})
	d.Clash = clash
	return d
}

// H1

func TestRight(t *testing.T) {
	for i, d := range rightIdeals() {
		if !ideal.Right(d) {
			t.Errorf("%d: not right", i)
		}
		// Told the other way, its clash makes it wrong.
		d.Clash = !d.Clash
		if ideal.Right(d) {
			t.Errorf("%d: right, clash %v", i, d.Clash)
		}
	}
	for what, d := range wrongIdeals() {
		if ideal.Right(d) {
			t.Errorf("%s: right", what)
		}
	}
}

func TestNew(t *testing.T) {
	most := sample(api.MaxTape)
	for i, x := range []api.Tape{{}, {Bytes: "a"}, {Bytes: "abc", At: 3}, {Bytes: "abc", At: 1}, {Bytes: most}, {Bytes: most, At: 777}, {Bytes: most, At: api.MaxTape}} {
		d, e := ideal.New(x)
		if e != api.OK || !same(d, api.Ideal{Tape: x}) || !ideal.Right(d) {
			t.Errorf("%d: error %d", i, e)
		}
	}
	for i, x := range wrongTapes() {
		if d, e := ideal.New(x); e != api.ErrArg || !same(d, api.Ideal{}) {
			t.Errorf("%d: error %d, %d bytes, at %d", i, e, len(d.Tape.Bytes), d.Tape.At)
		}
	}
}

// H2

func TestLabel(t *testing.T) {
	bytes := "?" + labelOf(1) + labelOf(2) + labelOf(1) + labelOf(3)
	d, _ := ideal.New(api.Tape{Bytes: bytes, At: 1})
	long, wide := sample(100), strings.Repeat("ä", 50)
	for _, x := range []struct {
		in, out string
		clash   bool
	}{{"x", labelOf(1), false}, {"", labelOf(2), false}, {long, labelOf(1), true}, {wide, labelOf(3), true}} {
		then := withName(d, x.in, x.out, x.clash)
		checkLabel(t, d, x.in, x.out, then, api.OK)
		d = then
	}
	// All is drawn: what was asked is answered again, the rest not.
	for in, out := range map[string]string{"x": labelOf(1), "": labelOf(2), long: labelOf(1), wide: labelOf(3)} {
		checkLabel(t, d, in, out, d, api.OK)
	}
	for _, in := range []string{"X", "x ", " ", "\x00", long[:99], labelOf(1)} {
		checkLabel(t, d, in, "", d, api.ErrTape)
	}
}

func TestExampleOfLabel(t *testing.T) {
	d, _ := ideal.New(api.Tape{Bytes: "abcdefghijklmnop"})
	then := withName(d, "x", "abcdefghijklmnop", false)
	checkLabel(t, d, "x", "abcdefghijklmnop", then, api.OK)
	checkLabel(t, then, "y", "", then, api.ErrTape)
}

func TestLabelOfTooFewBytes(t *testing.T) {
	for left := range 34 {
		d := idealOf(2, 2)
		d.Tape = api.Tape{Bytes: sample(50), At: 50 - left}
		if left < 16 {
			checkLabel(t, d, "x", "", d, api.ErrTape)
		} else {
			out := d.Tape.Bytes[50-left:][:16]
			checkLabel(t, d, "x", out, withName(d, "x", out, false), api.OK)
		}
		checkLabel(t, d, "in1", labelOf(1), d, api.OK)
	}
}

func TestLabelOfAsManyAsMayBe(t *testing.T) {
	d := idealOf(1999, 3)
	out := d.Tape.Bytes[7:23]
	full := withName(d, "x", out, false)
	checkLabel(t, d, "x", out, full, api.OK)
	// Whether bytes are left or not: of one more is told that there are too many.
	for _, at := range []int{23, 290, 300} {
		full.Tape.At = at
		checkLabel(t, full, "y", "", full, api.ErrLong)
		checkLabel(t, full, "x", out, full, api.OK)
		checkLabel(t, full, "in0", labelOf(0), full, api.OK)
		checkLabel(t, full, sample(101), "", full, api.ErrArg)
	}
	// As many cells hinder no label.
	d = idealOf(3, maxCells)
	checkLabel(t, d, "x", out, withName(d, "x", out, false), api.OK)
}

func TestLabelRefuses(t *testing.T) {
	longs := []string{sample(101), sample(1000), strings.Repeat("ä", 51), strings.Repeat("a", 1<<20)}
	for _, d := range rightIdeals() {
		for _, in := range longs {
			checkLabel(t, d, in, "", d, api.ErrArg)
		}
	}
	for _, d := range wrongIdeals() {
		for _, in := range []string{"", "x", "in0", "in1", longs[0]} {
			checkLabel(t, d, in, "", d, api.ErrArg)
		}
	}
}

func TestClashOfLabels(t *testing.T) {
	// With the first, a middle and the last label, and with a cell's label, which is none.
	for _, i := range []int{0, 2, 4} {
		d := idealOf(5, 3)
		d.Tape = api.Tape{Bytes: labelOf(i) + labelOf(9)}
		d.Cells[0].Label = labelOf(9)
		then := withName(d, "x", labelOf(i), true)
		checkLabel(t, d, "x", labelOf(i), then, api.OK)
		// Once there is one, there is one.
		checkLabel(t, then, "y", labelOf(9), withName(then, "y", labelOf(9), true), api.OK)
	}
	d := idealOf(5, 3)
	d.Tape = api.Tape{Bytes: labelOf(9)}
	d.Cells[0].Label = labelOf(9)
	checkLabel(t, d, "x", labelOf(9), withName(d, "x", labelOf(9), false), api.OK)
	// A label that was asked is none that was answered.
	d.Names[0].In = labelOf(9)
	checkLabel(t, d, "x", labelOf(9), withName(d, "x", labelOf(9), false), api.OK)
}

// H3

func TestSeal(t *testing.T) {
	bytes := "?" + cellOf(1) + cellOf(2) + cellOf(1) + cellOf(1)
	d, _ := ideal.New(api.Tape{Bytes: bytes, At: 1})
	l, m := labelOf(1), labelOf(2)
	for _, x := range []struct {
		label, text, cell string
		clash             bool
	}{{l, textOf(1), cellOf(1), false}, {l, textOf(2), cellOf(2), false}, {m, textOf(1), cellOf(1), false}, {l, textOf(3), cellOf(1), true}} {
		then := withCell(d, x.label, x.text, x.cell, x.clash)
		checkSeal(t, d, x.label, x.text, x.cell, then, api.OK)
		d = then
	}
	for _, c := range d.Cells {
		checkSeal(t, d, c.Label, c.Text, c.Cell, d, api.OK)
	}
	checkSeal(t, d, m, textOf(2), "", d, api.ErrTape)
	checkSeal(t, d, labelOf(3), textOf(1), "", d, api.ErrTape)
}

func TestSealOfTooFewBytes(t *testing.T) {
	for left := range 82 {
		d := idealOf(2, 2)
		d.Tape = api.Tape{Bytes: sample(90), At: 90 - left}
		if left < 40 {
			checkSeal(t, d, labelOf(0), textOf(1), "", d, api.ErrTape)
		} else {
			cell := d.Tape.Bytes[90-left:][:40]
			checkSeal(t, d, labelOf(0), textOf(1), cell, withCell(d, labelOf(0), textOf(1), cell, false), api.OK)
		}
		checkSeal(t, d, labelOf(1), textOf(1), cellOf(1), d, api.OK)
	}
}

func TestSealOfAsManyAsMayBe(t *testing.T) {
	d := idealOf(3, maxCells-1)
	cell := d.Tape.Bytes[7:47]
	full := withCell(d, labelOf(0), textOf(1), cell, false)
	checkSeal(t, d, labelOf(0), textOf(1), cell, full, api.OK)
	for _, at := range []int{47, 261, 300} {
		full.Tape.At = at
		checkSeal(t, full, labelOf(1), textOf(0), "", full, api.ErrLong)
		checkSeal(t, full, labelOf(0), textOf(1), cell, full, api.OK)
		checkSeal(t, full, labelOf(7), textOf(7), cellOf(7), full, api.OK)
		checkSeal(t, full, "l", textOf(0), "", full, api.ErrArg)
	}
	d = idealOf(2000, 3)
	checkSeal(t, d, labelOf(0), textOf(1), cell, withCell(d, labelOf(0), textOf(1), cell, false), api.OK)
}

func TestSealRefuses(t *testing.T) {
	for _, d := range rightIdeals() {
		for _, n := range []int{0, 1, 8, 15, 17, 24, 32, 1 << 20} {
			checkSeal(t, d, sample(n), textOf(0), "", d, api.ErrArg)
		}
		for _, n := range []int{0, 1, 16, 23, 25, 40, 1 << 20} {
			checkSeal(t, d, labelOf(0), sample(n), "", d, api.ErrArg)
		}
		checkSeal(t, d, strings.Repeat("ä", 16), textOf(0), "", d, api.ErrArg)
		checkSeal(t, d, labelOf(0), strings.Repeat("ä", 24), "", d, api.ErrArg)
		checkSeal(t, d, sample(17), sample(23), "", d, api.ErrArg)
	}
	for _, d := range wrongIdeals() {
		checkSeal(t, d, labelOf(0), textOf(0), "", d, api.ErrArg)
		checkSeal(t, d, labelOf(0), textOf(1), "", d, api.ErrArg)
		checkSeal(t, d, "l", textOf(0), "", d, api.ErrArg)
	}
}

func TestClashOfCells(t *testing.T) {
	for _, i := range []int{0, 2, 4} {
		d := idealOf(3, 5)
		d.Tape = api.Tape{Bytes: cellOf(i) + cellOf(9)}
		then := withCell(d, labelOf(i), textOf(7), cellOf(i), true)
		checkSeal(t, d, labelOf(i), textOf(7), cellOf(i), then, api.OK)
		checkSeal(t, then, labelOf(i), textOf(8), cellOf(9), withCell(then, labelOf(i), textOf(8), cellOf(9), true), api.OK)
		// The same cell under another label is none, even of the same text.
		checkSeal(t, d, labelOf(i+1), textOf(7), cellOf(i), withCell(d, labelOf(i+1), textOf(7), cellOf(i), false), api.OK)
		checkSeal(t, d, labelOf(i+1), textOf(i), cellOf(i), withCell(d, labelOf(i+1), textOf(i), cellOf(i), false), api.OK)
	}
}

// H4

func TestOpen(t *testing.T) {
	d := idealOf(3, 4)
	for i := range 4 {
		checkOpen(t, d, labelOf(i), cellOf(i), textOf(i), api.OK)
		checkOpen(t, d, labelOf(i), cellOf((i+1)%4), "", api.ErrTag)
		checkOpen(t, d, labelOf(i), cellOf(9), "", api.ErrTag)
		checkOpen(t, d, labelOf(9), cellOf(i), "", api.ErrTag)
		checkOpen(t, d, cellOf(i), labelOf(i), "", api.ErrTag)
		// A byte of either that is another one.
		for at := range 16 {
			other := []byte(labelOf(i))
			other[at] ^= 0x80
			checkOpen(t, d, string(other), cellOf(i), "", api.ErrTag)
		}
		for at := range 40 {
			other := []byte(cellOf(i))
			other[at] ^= 1 << 6
			checkOpen(t, d, labelOf(i), string(other), "", api.ErrTag)
		}
	}
	// A byte that goes from one to the other is not unseen.
	checkOpen(t, d, labelOf(0)[:15], labelOf(0)[15:]+cellOf(0), "", api.ErrTag)
	checkOpen(t, d, labelOf(0)+cellOf(0)[:1], cellOf(0)[1:], "", api.ErrTag)
}

func TestOpenTellsTheFirst(t *testing.T) {
	d := idealOf(0, 6)
	for _, i := range []int{2, 3, 5} {
		d.Cells[i].Label, d.Cells[i].Cell = labelOf(2), cellOf(2)
	}
	d.Clash = true
	checkOpen(t, d, labelOf(2), cellOf(2), textOf(2), api.OK)
	checkOpen(t, d, labelOf(4), cellOf(4), textOf(4), api.OK)
	checkOpen(t, d, labelOf(5), cellOf(5), "", api.ErrTag)
}

func TestOpenRefuses(t *testing.T) {
	for _, d := range rightIdeals() {
		for _, n := range []int{0, 1, 15, 17, 39, 41, 1 << 20} {
			checkOpen(t, d, sample(n), cellOf(0), "", api.ErrTag)
			checkOpen(t, d, labelOf(0), sample(n), "", api.ErrTag)
		}
	}
	for _, d := range wrongIdeals() {
		checkOpen(t, d, labelOf(0), cellOf(0), "", api.ErrArg)
		checkOpen(t, d, labelOf(9), cellOf(0), "", api.ErrArg)
		checkOpen(t, d, "", "", "", api.ErrArg)
	}
}

// H5

// asker asks an ideal all kinds of things, and keeps what was answered.
type asker struct {
	d      api.Ideal
	labels map[string]string
	cells  map[[2]string]string
}

func (a *asker) label(in string) api.Errno {
	out, d, e := ideal.Label(a.d, in)
	if e == api.OK {
		a.labels[in] = out
	}
	a.d = d
	return e
}

func (a *asker) seal(label, text string) api.Errno {
	cell, d, e := ideal.Seal(a.d, label, text)
	if e == api.OK {
		a.cells[[2]string{label, text}] = cell
	}
	a.d = d
	return e
}

// check asks everything again.
func (a *asker) check(t *testing.T) {
	t.Helper()
	if !ideal.Right(a.d) {
		t.Fatal("not right")
	}
	for in, out := range a.labels {
		checkLabel(t, a.d, in, out, a.d, api.OK)
	}
	for of, cell := range a.cells {
		checkSeal(t, a.d, of[0], of[1], cell, a.d, api.OK)
		text, e := ideal.Open(a.d, of[0], cell)
		if e != api.OK || !a.d.Clash && text != of[1] {
			t.Errorf("opened: %q, error %d, want %q", text, e, of[1])
		}
	}
	if len(a.d.Names) != len(a.labels) || len(a.d.Cells) != len(a.cells) {
		t.Errorf("%d names, %d cells; want %d, %d", len(a.d.Names), len(a.d.Cells), len(a.labels), len(a.cells))
	}
	if a.d.Clash != a.clash() {
		t.Errorf("clash %v", a.d.Clash)
	}
}

// clash tells whether unlike questions had one answer.
func (a *asker) clash() bool {
	outs, opens := map[string]int{}, map[[2]string]int{}
	for _, out := range a.labels {
		outs[out]++
	}
	for of, cell := range a.cells {
		opens[[2]string{of[0], cell}]++
	}
	return len(outs) < len(a.labels) || len(opens) < len(a.cells)
}

func askerOf(bytes string) *asker {
	return &asker{api.Ideal{Tape: api.Tape{Bytes: bytes}}, map[string]string{}, map[[2]string]string{}}
}

func TestWhatWasAnsweredIsAnsweredAgain(t *testing.T) {
	r := rand.New(rand.NewSource(8))
	for round := range 60 {
		// Bytes of few values make clashes.
		bytes := []byte(sample(1500 + round))
		if round%3 == 0 {
			for i := range bytes {
				bytes[i] = byte(i / (16 + round) % 3)
			}
		}
		a := askerOf(string(bytes))
		ended := map[api.Errno]int{}
		for range 80 {
			if r.Intn(2) == 0 {
				ended[a.label(fmt.Sprint(r.Intn(40)))]++
			} else {
				ended[a.seal(labelOf(r.Intn(3)), textOf(r.Intn(15)))]++
			}
		}
		a.check(t)
		if ended[api.OK]+ended[api.ErrTape] != 80 {
			t.Error(ended)
		}
		if round%3 != 0 && a.d.Clash {
			t.Errorf("%d: a clash of drawn bytes", round)
		}
	}
}

func TestUnlikeQuestionsHaveUnlikeAnswers(t *testing.T) {
	a := askerOf(sample(api.MaxTape))
	for i := range 300 {
		if a.label(strings.Repeat("x", i%101)+fmt.Sprint(i)) == api.ErrArg {
			a.label(fmt.Sprint(i))
		}
		a.seal(labelOf(i%20), textOf(i/20))
	}
	a.check(t)
	if a.d.Clash || len(a.d.Names) != 300 || len(a.d.Cells) != 300 {
		t.Errorf("clash %v, %d names, %d cells", a.d.Clash, len(a.d.Names), len(a.d.Cells))
	}
}

func TestWhatIsAskedMakesNoDifference(t *testing.T) {
	for round := range 20 {
		r := rand.New(rand.NewSource(int64(round)))
		a, b := askerOf(sample(3000)), askerOf(sample(3000))
		for i := range 60 {
			// The same kind to both, of other bytes; what was asked before is mixed into one of them alone.
			if r.Intn(2) == 0 {
				a.label(fmt.Sprint("a", i))
				b.label(strings.Repeat("b", i))
			} else {
				a.seal(labelOf(i), textOf(0))
				b.seal(labelOf(0), textOf(1000+i))
			}
			for _, n := range a.d.Names {
				a.label(n.In)
			}
			for _, m := range a.d.Cells {
				a.seal(m.Label, m.Text)
			}
			if a.d.Tape != b.d.Tape || a.d.Clash != b.d.Clash {
				t.Fatalf("%d: at %d, and at %d", i, a.d.Tape.At, b.d.Tape.At)
			}
		}
		for i, n := range a.d.Names {
			if b.d.Names[i].Out != n.Out {
				t.Errorf("label %d: %q, and %q", i, n.Out, b.d.Names[i].Out)
			}
		}
		for i, m := range a.d.Cells {
			if b.d.Cells[i].Cell != m.Cell {
				t.Errorf("cell %d: %q, and %q", i, m.Cell, b.d.Cells[i].Cell)
			}
		}
	}
}

// R1 to R4, at drawn arguments too

// isRight is what the promise says, told over again, each with each.
func isRight(d api.Ideal) bool {
	right := d.Tape.At >= 0 && d.Tape.At <= len(d.Tape.Bytes) && len(d.Names) <= 2000 && len(d.Cells) <= 2000
	clash := false
	for i, n := range d.Names {
		right = right && len(n.In) <= 100 && len(n.Out) == 16
		for _, o := range d.Names[:i] {
			right = right && o.In != n.In
			clash = clash || o.Out == n.Out
		}
	}
	for i, m := range d.Cells {
		right = right && len(m.Label) == 16 && len(m.Text) == 24 && len(m.Cell) == 40
		for _, o := range d.Cells[:i] {
			right = right && (o.Label != m.Label || o.Text != m.Text)
			clash = clash || o.Label == m.Label && o.Cell == m.Cell
		}
	}
	return right && d.Clash == clash
}

// drawnIdeal is one of few things, and often not right.
func drawnIdeal(r *rand.Rand) api.Ideal {
	d := api.Ideal{Tape: api.Tape{Bytes: sample(r.Intn(60)), At: r.Intn(20)}, Clash: r.Intn(3) == 0}
	if r.Intn(20) == 0 {
		d.Tape.At -= 10
	}
	for range r.Intn(5) {
		d.Names = append(d.Names, api.Name{In: fmt.Sprint(r.Intn(12)), Out: labelOf(r.Intn(12))})
	}
	for range r.Intn(5) {
		d.Cells = append(d.Cells, api.Made{Label: labelOf(r.Intn(3)), Text: textOf(r.Intn(4)), Cell: cellOf(r.Intn(4))})
	}
	if r.Intn(20) == 0 && len(d.Names) > 0 {
		d.Names[0].Out = sample(15 + 2*r.Intn(2))
	}
	if r.Intn(20) == 0 && len(d.Cells) > 0 {
		d.Cells[0].Cell = sample(39 + 2*r.Intn(2))
	}
	return d
}

func TestDrawnArguments(t *testing.T) {
	r := rand.New(rand.NewSource(8))
	right := 0
	for range 30000 {
		d := drawnIdeal(r)
		is := isRight(d)
		if got := ideal.Right(d); got != is {
			t.Fatalf("%v, want %v: %v", got, is, d)
		}
		checkDrawnLabel(t, d, fmt.Sprint(r.Intn(12)), is)
		checkDrawnSeal(t, d, labelOf(r.Intn(3)), textOf(r.Intn(4)), is)
		checkDrawnOpen(t, d, labelOf(r.Intn(3)), cellOf(r.Intn(4)), is)
		if is {
			right++
		}
	}
	if right < 5000 || right > 25000 {
		t.Error("right:", right)
	}
}

func checkDrawnLabel(t *testing.T, d api.Ideal, in string, right bool) {
	t.Helper()
	i := slices.IndexFunc(d.Names, func(n api.Name) bool { return n.In == in })
	switch {
	case !right:
		checkLabel(t, d, in, "", d, api.ErrArg)
	case i >= 0:
		checkLabel(t, d, in, d.Names[i].Out, d, api.OK)
	case d.Tape.At+16 > len(d.Tape.Bytes):
		checkLabel(t, d, in, "", d, api.ErrTape)
	default:
		out := d.Tape.Bytes[d.Tape.At:][:16]
		checkLabel(t, d, in, out, withName(d, in, out, d.Clash), api.OK)
	}
}

func checkDrawnSeal(t *testing.T, d api.Ideal, label, text string, right bool) {
	t.Helper()
	i := slices.IndexFunc(d.Cells, func(m api.Made) bool { return m.Label == label && m.Text == text })
	switch {
	case !right:
		checkSeal(t, d, label, text, "", d, api.ErrArg)
	case i >= 0:
		checkSeal(t, d, label, text, d.Cells[i].Cell, d, api.OK)
	case d.Tape.At+40 > len(d.Tape.Bytes):
		checkSeal(t, d, label, text, "", d, api.ErrTape)
	default:
		cell := d.Tape.Bytes[d.Tape.At:][:40]
		checkSeal(t, d, label, text, cell, withCell(d, label, text, cell, d.Clash), api.OK)
	}
}

func checkDrawnOpen(t *testing.T, d api.Ideal, label, cell string, right bool) {
	t.Helper()
	i := slices.IndexFunc(d.Cells, func(m api.Made) bool { return m.Label == label && m.Cell == cell })
	switch {
	case !right:
		checkOpen(t, d, label, cell, "", api.ErrArg)
	case i < 0:
		checkOpen(t, d, label, cell, "", api.ErrTag)
	default:
		checkOpen(t, d, label, cell, d.Cells[i].Text, api.OK)
	}
}

// spoil writes over all that an owner of an ideal may write over, spare room too.
func spoil(d api.Ideal) {
	names, cells := d.Names[:cap(d.Names)], d.Cells[:cap(d.Cells)]
	for i := range names {
		names[i] = api.Name{In: "spoilt", Out: "spoilt"}
	}
	for i := range cells {
		cells[i] = api.Made{Label: "spoilt", Text: "spoilt", Cell: "spoilt"}
	}
}

// roomy is an ideal with spare room behind its lists, and what stands in them and in that room.
func roomy() (d api.Ideal, names []api.Name, cells []api.Made) {
	all := idealOf(10, 10)
	d = all
	d.Names, d.Cells = all.Names[:4], all.Cells[:4]
	return d, all.Names, all.Cells
}

func TestNothingHandedInIsWrittenInto(t *testing.T) {
	calls := map[string]func(d api.Ideal) api.Ideal{
		"a new label":  func(d api.Ideal) api.Ideal { _, n, _ := ideal.Label(d, "x"); return n },
		"a label":      func(d api.Ideal) api.Ideal { _, n, _ := ideal.Label(d, "in1"); return n },
		"a new cell":   func(d api.Ideal) api.Ideal { _, n, _ := ideal.Seal(d, labelOf(0), textOf(1)); return n },
		"a cell":       func(d api.Ideal) api.Ideal { _, n, _ := ideal.Seal(d, labelOf(1), textOf(1)); return n },
		"opened":       func(d api.Ideal) api.Ideal { ideal.Open(d, labelOf(1), cellOf(1)); return api.Ideal{} },
		"told right":   func(d api.Ideal) api.Ideal { ideal.Right(d); return api.Ideal{} },
		"of its tape":  func(d api.Ideal) api.Ideal { n, _ := ideal.New(d.Tape); return n },
		"of few names": func(d api.Ideal) api.Ideal { d.Names = d.Names[:0]; _, n, _ := ideal.Label(d, "x"); return n },
		"of few cells": func(d api.Ideal) api.Ideal {
			d.Cells = d.Cells[:0]
			_, n, _ := ideal.Seal(d, labelOf(0), textOf(0))
			return n
		},
	}
	for what, call := range calls {
		d, names, cells := roomy()
		wantNames, wantCells := slices.Clone(names), slices.Clone(cells)
		got := call(d)
		if !slices.Equal(names, wantNames) || !slices.Equal(cells, wantCells) {
			t.Errorf("%s: what was handed in is another one", what)
		}
		again := call(d)
		want := copyOf(again)
		spoil(got)
		if !slices.Equal(names, wantNames) || !slices.Equal(cells, wantCells) {
			t.Errorf("%s: an answer shares what was handed in", what)
		}
		if !same(again, want) {
			t.Errorf("%s: two answers share their memory", what)
		}
		// And what is done to what was handed in is not seen in the answer.
		spoil(d)
		if !same(again, want) {
			t.Errorf("%s: what was handed in is kept", what)
		}
	}
}

func TestTwoWaysOnFromOne(t *testing.T) {
	_, d, _ := ideal.Label(idealOf(3, 3), "x")
	_, d, _ = ideal.Seal(d, labelOf(0), textOf(1))
	_, a, _ := ideal.Label(d, "a")
	_, b, _ := ideal.Label(d, "b")
	_, a, _ = ideal.Seal(a, labelOf(0), textOf(2))
	_, b, _ = ideal.Seal(b, labelOf(0), textOf(3))
	if a.Names[4].In != "a" || b.Names[4].In != "b" || a.Cells[4].Text != textOf(2) || b.Cells[4].Text != textOf(3) || len(d.Names) != 4 || len(d.Cells) != 4 {
		t.Error(a.Names[4:], b.Names[4:], a.Cells[4:], b.Cells[4:])
	}
}

func TestAllAtOnce(t *testing.T) {
	d := idealOf(300, 300)
	out, cell := d.Tape.Bytes[7:23], d.Tape.Bytes[7:47]
	name, made := withName(d, "x", out, false), withCell(d, labelOf(0), textOf(1), cell, false)
	var all sync.WaitGroup
	for range 8 {
		all.Go(func() {
			for range 20 {
				checkLabel(t, d, "x", out, name, api.OK)
				checkLabel(t, d, "in200", labelOf(200), d, api.OK)
				checkSeal(t, d, labelOf(0), textOf(1), cell, made, api.OK)
				checkOpen(t, d, labelOf(299), cellOf(299), textOf(299), api.OK)
			}
		})
	}
	all.Wait()
}
