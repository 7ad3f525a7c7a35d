package oracle_test

import (
	"fmt"
	"math/rand"
	"slices"
	"strings"
	"sync"
	"testing"

	"columbarium/api"
	"columbarium/oracle"
)

// I6

func TestUnlikeAsksAreUnlike(t *testing.T) {
	// Words that look like the numbers, or like what another word's question begins with.
	words := []string{"", "\x00", "\x00\x00", "\x00\x00\x00\x01", "\x01", "\x01\x00", "\x00\x01", "a", "\x01a", "aa", "\x02aa", "a\x00", "\x00a", "a\x00\x00\x00\x00", strings.Repeat("\x00", 19), strings.Repeat("\x00", 20), strings.Repeat("ä", 10)}
	counts := []int{0, 1, 97, 255, 256, 257, 65536, 65793, 999999, 1000000}
	seen := map[string]string{}
	for _, word := range words {
		for _, epoch := range counts {
			for _, count := range counts {
				asked, e := oracle.Ask(word, epoch, count)
				what := fmt.Sprintf("%q, %d, %d", word, epoch, count)
				if other, is := seen[asked]; is || e != api.OK {
					t.Errorf("%s, and %s: %x, error %d", what, other, asked, e)
				}
				seen[asked] = what
			}
		}
	}
}

type question struct {
	word         string
	epoch, count int
}

type made struct{ label, text string }

// asker asks an oracle, and keeps what was answered.
type asker struct {
	o      api.Oracle
	labels map[question]string
	cells  map[made]string
}

func askerOf(t *testing.T, mode int, bytes string) *asker {
	t.Helper()
	o, e := oracle.New(mode, key, api.Tape{Bytes: bytes})
	if e != api.OK {
		t.Fatal(e)
	}
	return &asker{o, map[question]string{}, map[made]string{}}
}

func (a *asker) label(q question) api.Errno {
	out, o, e := oracle.Label(a.o, q.word, q.epoch, q.count)
	if e == api.OK {
		a.labels[q] = out
	}
	a.o = o
	return e
}

func (a *asker) cell(m made) api.Errno {
	cell, o, e := oracle.Cell(a.o, m.label, m.text)
	if e == api.OK {
		a.cells[m] = cell
	}
	a.o = o
	return e
}

// check asks everything again, and opens what was made.
func (a *asker) check(t *testing.T) {
	t.Helper()
	if !oracle.Right(a.o) || len(a.o.Ideal.Names) != len(a.labels) || len(a.o.Ideal.Cells) != len(a.cells) {
		t.Fatalf("right %v, %d names, %d cells; want %d, %d", oracle.Right(a.o), len(a.o.Ideal.Names), len(a.o.Ideal.Cells), len(a.labels), len(a.cells))
	}
	unlike := map[string]struct{}{}
	for q, out := range a.labels {
		checkLabel(t, a.o, q.word, q.epoch, q.count, out, a.o, api.OK)
		unlike[out] = struct{}{}
	}
	for m, cell := range a.cells {
		checkCell(t, a.o, m.label, m.text, cell, a.o, api.OK)
		text, e := oracle.Open(a.o, m.label, cell)
		if e != api.OK || !a.o.Ideal.Clash && text != m.text {
			t.Errorf("opened: %x, error %d, want %x", text, e, m.text)
		}
	}
	if !a.o.Ideal.Clash && len(unlike) != len(a.labels) {
		t.Errorf("%d labels of %d questions, and no clash told", len(unlike), len(a.labels))
	}
}

func TestWhatWasAnsweredIsAnsweredAgain(t *testing.T) {
	r := rand.New(rand.NewSource(9))
	clashes := 0
	for round := range 30 {
		for _, mode := range modes() {
			// Bytes of few values make clashes.
			bytes := []byte(sample(1200 + round))
			if round%3 == 0 {
				for i := range bytes {
					bytes[i] = byte(i / (16 + round) % 3)
				}
			}
			a := askerOf(t, mode, string(bytes))
			for range 60 {
				q := question{fmt.Sprint(r.Intn(6)), r.Intn(3), r.Intn(3)}
				e := a.label(q)
				if label, is := a.labels[q]; is && r.Intn(2) == 0 {
					e = max(e, a.cell(made{label, textOf(r.Intn(4))}))
				}
				if e != api.OK && (e != api.ErrTape || mode == api.Real) {
					t.Errorf("mode %d, error %d", mode, e)
				}
			}
			a.check(t)
			if a.o.Ideal.Clash {
				clashes++
			}
			if a.o.Ideal.Clash && (mode == api.Real || round%3 != 0) {
				t.Errorf("%d: mode %d: a clash", round, mode)
			}
		}
	}
	if clashes == 0 {
		t.Error("no clash was seen")
	}
}

func TestUnlikeQuestionsHaveUnlikeAnswers(t *testing.T) {
	for _, mode := range modes() {
		a := askerOf(t, mode, sample(api.MaxTape))
		for i := range 200 {
			q := question{strings.Repeat("x", i%4), i / 4 % 5, i / 20}
			e := max(a.label(q), a.cell(made{a.labels[q], textOf(i % 7)}))
			if e != api.OK {
				t.Fatal(e)
			}
		}
		a.check(t)
		if a.o.Ideal.Clash || len(a.labels) != 200 {
			t.Errorf("mode %d: clash %v, %d labels", mode, a.o.Ideal.Clash, len(a.labels))
		}
	}
}

// By a key, an answer hangs on nothing that was asked before; and another key answers otherwise.
func TestRealHangsOnTheKeyAlone(t *testing.T) {
	fresh, old := oracleOf(api.Real, 0, 0), oracleOf(api.Real, 50, 50)
	fresh.Ideal.Tape = api.Tape{}
	a, _, _ := oracle.Label(fresh, "x", 1, 2)
	b, _, _ := oracle.Label(old, "x", 1, 2)
	c, _, _ := oracle.Cell(fresh, a, textOf(0))
	d, _, _ := oracle.Cell(old, a, textOf(0))
	if a != b || c != d {
		t.Errorf("%x, %x, %x, %x", a, b, c, d)
	}
	for at := range 32 {
		other := []byte(key)
		other[at] ^= 1
		fresh.Key = string(other)
		b, _, _ := oracle.Label(fresh, "x", 1, 2)
		d, _, _ := oracle.Cell(fresh, a, textOf(0))
		if a == b || c == d {
			t.Errorf("byte %d of the key makes no difference", at)
		}
		checkOpen(t, fresh, a, c, "", api.ErrTag)
	}
}

// R1 to R4, at drawn arguments too

// isRight is what the promises say, told over again, each with each.
func isRight(o api.Oracle) bool {
	d := o.Ideal
	right := o.Mode >= 1 && o.Mode <= 2 && len(o.Key) == 32 && d.Tape.At >= 0 && d.Tape.At <= len(d.Tape.Bytes)
	clash := false
	for i, n := range d.Names {
		right = right && len(n.In) <= 100 && len(n.Out) == 16
		for _, m := range d.Names[:i] {
			right = right && m.In != n.In
			clash = clash || m.Out == n.Out
		}
	}
	for i, c := range d.Cells {
		right = right && len(c.Label) == 16 && len(c.Text) == 24 && len(c.Cell) == 40
		for _, m := range d.Cells[:i] {
			right = right && (m.Label != c.Label || m.Text != c.Text)
			clash = clash || m.Label == c.Label && m.Cell == c.Cell
		}
	}
	return right && d.Clash == clash
}

// toldLabel is what Label must answer; toldCell and toldOpen so for these.
func toldLabel(o api.Oracle, word string, epoch, count int) (string, api.Oracle, api.Errno) {
	if !isRight(o) || len(word) > 20 || epoch < 0 || count < 0 || epoch > 1000000 || count > 1000000 {
		return "", o, api.ErrArg
	}
	in := askOf(word, epoch, count)
	out, taken := libraryLabel(o.Key, in), 0
	if o.Mode == api.Drawn {
		out, taken = o.Ideal.Tape.Bytes[o.Ideal.Tape.At:], 16
	}
	clash := o.Ideal.Clash
	for _, n := range o.Ideal.Names {
		if n.In == in {
			return n.Out, o, api.OK
		}
		clash = clash || strings.HasPrefix(out, n.Out)
	}
	if len(out) < 16 {
		return "", o, api.ErrTape
	}
	return out[:16], withName(o, taken, in, out[:16], clash), api.OK
}

func toldCell(o api.Oracle, label, text string) (string, api.Oracle, api.Errno) {
	if !isRight(o) || len(label) != 16 || len(text) != 24 {
		return "", o, api.ErrArg
	}
	cell, taken := libraryCell(o.Key, label, text), 0
	if o.Mode == api.Drawn {
		cell, taken = o.Ideal.Tape.Bytes[o.Ideal.Tape.At:], 40
	}
	clash := o.Ideal.Clash
	for _, m := range o.Ideal.Cells {
		if m.Label == label && m.Text == text {
			return m.Cell, o, api.OK
		}
		clash = clash || m.Label == label && strings.HasPrefix(cell, m.Cell)
	}
	if len(cell) < 40 {
		return "", o, api.ErrTape
	}
	return cell[:40], withCell(o, taken, label, text, cell[:40], clash), api.OK
}

func toldOpen(o api.Oracle, label, cell string, drawn []made) (string, api.Errno) {
	if !isRight(o) {
		return "", api.ErrArg
	}
	if len(label) != 16 || len(cell) != 40 {
		return "", api.ErrTag
	}
	for _, m := range o.Ideal.Cells {
		if o.Mode == api.Drawn && m.Label == label && m.Cell == cell {
			return m.Text, api.OK
		}
	}
	for _, m := range drawn {
		if o.Mode == api.Real && m.label == label && libraryCell(o.Key, label, m.text) == cell {
			return m.text, api.OK
		}
	}
	return "", api.ErrTag
}

// drawnMade are all that drawn cells are made of.
func drawnMade() []made {
	var out []made
	for i := range 12 {
		out = append(out, made{labelOf(i / 4), textOf(i % 4)})
	}
	return out
}

// drawnCell is one of few cells, right by a key or not.
func drawnCell(r *rand.Rand, of []made) string {
	if r.Intn(2) == 0 {
		return cellOf(r.Intn(4))
	}
	m := of[r.Intn(len(of))]
	return libraryCell(key, m.label, m.text)
}

func drawnQuestion(r *rand.Rand) question {
	return question{strings.Repeat("w", r.Intn(3)), r.Intn(2), r.Intn(2)}
}

// drawnOracle is one of few things, and often not right.
func drawnOracle(r *rand.Rand, of []made) api.Oracle {
	o := api.Oracle{Mode: 1 + r.Intn(2), Key: key, Ideal: api.Ideal{Tape: api.Tape{Bytes: sample(r.Intn(70)), At: r.Intn(20)}, Clash: r.Intn(4) == 0}}
	if r.Intn(20) == 0 {
		o.Mode += 2 * (1 - r.Intn(3))
	}
	if r.Intn(20) == 0 {
		o.Key = sample(31 + 2*r.Intn(2))
	}
	for range r.Intn(4) {
		q, p := drawnQuestion(r), drawnQuestion(r)
		outs := []string{labelOf(r.Intn(12)), libraryLabel(key, askOf(p.word, p.epoch, p.count))}
		o.Ideal.Names = append(o.Ideal.Names, api.Name{In: askOf(q.word, q.epoch, q.count), Out: outs[r.Intn(2)]})
	}
	for range r.Intn(4) {
		m := of[r.Intn(len(of))]
		o.Ideal.Cells = append(o.Ideal.Cells, api.Made{Label: m.label, Text: m.text, Cell: drawnCell(r, of)})
	}
	return o
}

func TestDrawnArguments(t *testing.T) {
	r := rand.New(rand.NewSource(9))
	of := drawnMade()
	ended := map[string]int{}
	for range 4000 {
		o := drawnOracle(r, of)
		if got := oracle.Right(o); got != isRight(o) {
			t.Fatalf("right %v: %v", got, o)
		}
		q, m := drawnQuestion(r), of[r.Intn(len(of))]
		label, then, e := toldLabel(o, q.word, q.epoch, q.count)
		checkLabel(t, o, q.word, q.epoch, q.count, label, then, e)
		ended[fmt.Sprint("label ", o.Mode, e, then.Ideal.Clash != o.Ideal.Clash)]++
		cell, then, e := toldCell(o, m.label, m.text)
		checkCell(t, o, m.label, m.text, cell, then, e)
		ended[fmt.Sprint("cell ", o.Mode, e, then.Ideal.Clash != o.Ideal.Clash)]++
		cell = drawnCell(r, of)
		text, e := toldOpen(o, m.label, cell, of)
		checkOpen(t, o, m.label, cell, text, e)
		ended[fmt.Sprint("open ", o.Mode, e)]++
	}
	for _, what := range []string{"label 1 0 true", "label 1 0 false", "label 1 1 false", "label 2 0 false", "label 2 12 false", "cell 1 0 true", "cell 1 0 false", "cell 2 0 false", "cell 2 12 false", "open 1 0", "open 1 11", "open 2 0", "open 2 11", "open 2 1"} {
		if ended[what] == 0 {
			t.Errorf("%s: never", what)
		}
	}
}

// spoil writes over all that an owner of an oracle may write over, spare room too.
func spoil(o api.Oracle) {
	names, cells := o.Ideal.Names[:cap(o.Ideal.Names)], o.Ideal.Cells[:cap(o.Ideal.Cells)]
	for i := range names {
		names[i] = api.Name{In: "spoilt", Out: "spoilt"}
	}
	for i := range cells {
		cells[i] = api.Made{Label: "spoilt", Text: "spoilt", Cell: "spoilt"}
	}
}

// roomy is an oracle with spare room behind its lists, and what stands in them and in that room.
func roomy(mode int) (o api.Oracle, names []api.Name, cells []api.Made) {
	all := oracleOf(mode, 10, 10)
	o = all
	o.Ideal.Names, o.Ideal.Cells = all.Ideal.Names[:4], all.Ideal.Cells[:4]
	return o, all.Ideal.Names, all.Ideal.Cells
}

func TestNothingHandedInIsWrittenInto(t *testing.T) {
	calls := map[string]func(o api.Oracle) api.Oracle{
		"a new label": func(o api.Oracle) api.Oracle { _, n, _ := oracle.Label(o, "x", 0, 0); return n },
		"a label":     func(o api.Oracle) api.Oracle { _, n, _ := oracle.Label(o, "word", 3, 1); return n },
		"a new cell":  func(o api.Oracle) api.Oracle { _, n, _ := oracle.Cell(o, labelOf(0), textOf(1)); return n },
		"a cell":      func(o api.Oracle) api.Oracle { _, n, _ := oracle.Cell(o, labelOf(1), textOf(1)); return n },
		"opened":      func(o api.Oracle) api.Oracle { oracle.Open(o, labelOf(1), cellOf(1)); return api.Oracle{} },
		"told right":  func(o api.Oracle) api.Oracle { oracle.Right(o); return api.Oracle{} },
		"of its tape": func(o api.Oracle) api.Oracle { n, _ := oracle.New(o.Mode, o.Key, o.Ideal.Tape); return n },
	}
	for what, call := range calls {
		for _, mode := range modes() {
			o, names, cells := roomy(mode)
			wantNames, wantCells := slices.Clone(names), slices.Clone(cells)
			got := call(o)
			again := call(o)
			want := copyOf(again)
			spoil(got)
			if !slices.Equal(names, wantNames) || !slices.Equal(cells, wantCells) {
				t.Errorf("mode %d, %s: what was handed in is another one", mode, what)
			}
			if !same(again, want) {
				t.Errorf("mode %d, %s: two answers share their memory", mode, what)
			}
			// And what is done to what was handed in is not seen in the answer.
			spoil(o)
			if !same(again, want) {
				t.Errorf("mode %d, %s: what was handed in is kept", mode, what)
			}
		}
	}
}

func TestTwoWaysOnFromOne(t *testing.T) {
	for _, mode := range modes() {
		_, o, _ := oracle.Label(oracleOf(mode, 3, 3), "x", 0, 0)
		_, o, _ = oracle.Cell(o, labelOf(0), textOf(1))
		_, a, _ := oracle.Label(o, "a", 0, 0)
		_, b, _ := oracle.Label(o, "b", 0, 0)
		_, a, _ = oracle.Cell(a, labelOf(0), textOf(2))
		_, b, _ = oracle.Cell(b, labelOf(0), textOf(3))
		x, y := a.Ideal, b.Ideal
		if x.Names[4].In != askOf("a", 0, 0) || y.Names[4].In != askOf("b", 0, 0) || x.Cells[4].Text != textOf(2) || y.Cells[4].Text != textOf(3) || len(o.Ideal.Names) != 4 || len(o.Ideal.Cells) != 4 {
			t.Error(mode, x.Names[4:], y.Names[4:], x.Cells[4:], y.Cells[4:])
		}
	}
}

func TestAllAtOnce(t *testing.T) {
	real, drawn := oracleOf(api.Real, 100, 100), oracleOf(api.Drawn, 100, 100)
	in := askOf("x", 1, 2)
	realOut, realCell := libraryLabel(key, in), libraryCell(key, labelOf(0), textOf(1))
	out, cell := drawn.Ideal.Tape.Bytes[7:23], drawn.Ideal.Tape.Bytes[7:47]
	var all sync.WaitGroup
	for range 8 {
		all.Go(func() {
			for range 10 {
				checkLabel(t, real, "x", 1, 2, realOut, withName(real, 0, in, realOut, false), api.OK)
				checkLabel(t, drawn, "x", 1, 2, out, withName(drawn, 16, in, out, false), api.OK)
				checkCell(t, real, labelOf(0), textOf(1), realCell, withCell(real, 0, labelOf(0), textOf(1), realCell, false), api.OK)
				checkCell(t, drawn, labelOf(0), textOf(1), cell, withCell(drawn, 40, labelOf(0), textOf(1), cell, false), api.OK)
				checkOpen(t, real, labelOf(0), realCell, textOf(1), api.OK)
				checkOpen(t, drawn, labelOf(99), cellOf(99), textOf(99), api.OK)
			}
		})
	}
	all.Wait()
}
