package oracle_test

import (
	"math"
	"strings"
	"testing"

	"columbarium/api"
	"columbarium/ideal"
	"columbarium/mac"
	"columbarium/oracle"
	"columbarium/seal"
)

// I1

func rightWords() []string {
	return []string{"", "a", "ab", "\x00", "\xff\xfe", "word", strings.Repeat("w", 19), strings.Repeat("w", 20), strings.Repeat("ä", 10), sample(20)}
}

func wrongWords() []string {
	return []string{strings.Repeat("w", 21), sample(21), strings.Repeat("ä", 10) + "a", strings.Repeat("ä", 20), sample(256), sample(276), strings.Repeat("a", 1<<20)}
}

func rightCounts() []int {
	return []int{0, 1, 2, 127, 128, 255, 256, 258, 65535, 65536, 999999, 1000000}
}

func wrongCounts() []int {
	return []int{-1, 1000001, -1000000, 1 << 31, 1 << 32, 1<<32 + 5, -1 << 32, math.MaxInt, math.MinInt}
}

func TestAsk(t *testing.T) {
	if got, e := oracle.Ask("ab", 1, 258); got != "\x02ab\x00\x00\x00\x01\x00\x00\x01\x02" || e != api.OK {
		t.Errorf("%x, error %d", got, e)
	}
	if got, e := oracle.Ask("", 1000000, 65536); got != "\x00\x00\x0f\x42\x40\x00\x01\x00\x00" || e != api.OK {
		t.Errorf("%x, error %d", got, e)
	}
	for _, word := range rightWords() {
		for _, epoch := range rightCounts() {
			for _, count := range rightCounts() {
				if got, e := oracle.Ask(word, epoch, count); got != askOf(word, epoch, count) || e != api.OK {
					t.Errorf("%q, %d, %d: %x, error %d", word, epoch, count, got, e)
				}
			}
		}
	}
}

// wrongAsks tells each question that is none: of one thing that may not be, or of all at once.
func wrongAsks(call func(word string, epoch, count int)) {
	for _, word := range wrongWords() {
		call(word, 0, 0)
		call(word, -1, 1000001)
	}
	for _, n := range wrongCounts() {
		call("word", n, 0)
		call("word", 3, n)
		call("", n, n)
	}
}

func TestAskWrong(t *testing.T) {
	wrongAsks(func(word string, epoch, count int) {
		if got, e := oracle.Ask(word, epoch, count); got != "" || e != api.ErrArg {
			t.Errorf("a word of %d bytes, %d, %d: %x, error %d", len(word), epoch, count, got, e)
		}
	})
}

// I2

func TestRight(t *testing.T) {
	for i, o := range rightOracles() {
		if !oracle.Right(o) {
			t.Errorf("%d: not right", i)
		}
	}
	for i, o := range wrongOracles() {
		if oracle.Right(o) {
			t.Errorf("%d: right: mode %d, a key of %d bytes", i, o.Mode, len(o.Key))
		}
	}
}

func TestNew(t *testing.T) {
	tapes := []api.Tape{{}, {Bytes: "tape", At: 1}, {Bytes: "tape", At: 4}, {Bytes: sample(api.MaxTape), At: api.MaxTape}}
	for _, mode := range modes() {
		for _, key := range []string{key, strings.Repeat("\x00", 32), strings.Repeat("ä", 16)} {
			for i, x := range tapes {
				o, e := oracle.New(mode, key, x)
				if e != api.OK || !same(o, api.Oracle{Mode: mode, Key: key, Ideal: api.Ideal{Tape: x}}) || !oracle.Right(o) {
					t.Errorf("mode %d, %x, %d: error %d", mode, key, i, e)
				}
			}
		}
	}
}

func TestNewWrong(t *testing.T) {
	check := func(mode int, key string, x api.Tape) {
		t.Helper()
		if o, e := oracle.New(mode, key, x); !same(o, api.Oracle{}) || e != api.ErrArg {
			t.Errorf("mode %d, a key of %d bytes, at %d: error %d", mode, len(key), x.At, e)
		}
	}
	for _, mode := range wrongModes() {
		check(mode, key, api.Tape{})
	}
	for _, mode := range modes() {
		for _, wrong := range wrongKeys() {
			check(mode, wrong, api.Tape{Bytes: "tape"})
		}
		for _, wrong := range wrongTapes() {
			check(mode, key, wrong)
		}
	}
	check(0, "", api.Tape{At: 1})
}

// I3, I4, I5: known answers, that openssl's counter mode, and another HMAC, made

const knownKey = "000102030405060708090a0b0c0d0e0f101112131415161718191a1b1c1d1e1f"

var known = []struct {
	word         string
	epoch, count int
	text         string
	label, cell  string
}{
	{"ab", 1, 258, strings.Repeat("\x00", 24), "29359c62ede74eca6455f144c7e07d3e", "c3476d2c6089449539b737cf699e65c39c87f8398bae6fc150361768be9304d680bfa1a4f007254e"},
	{"", 0, 0, "twenty-four letters here", "1c521b40d092564fb54e119868c3c4ff", "5c681b2f5739ca1269732342d06c166975476a7afbc010b3fa299bc5b4e72ae76a40e9f3840a529e"},
	{strings.Repeat("ä", 10), 1000000, 1000000, strings.Repeat("\xff", 24), "6b38d4e5fd4b6d810f1c1ad6cd20d2b6", "133a9b2f34a374a8545d46fe314dbee16fd0e99f162d83419092743db5c39d816f75fbc4336c3c04"},
	{"word", 0, 7, "twenty-four letters here", "0a310ce53158066551446265ad71baee", "3d893c8434f4df4eb2fbc41cbbafb0ac0feb4e11742f4e55ca067c2f31c1716e96d785f0715febd2"},
}

func TestKnown(t *testing.T) {
	o, e := oracle.New(api.Real, unhex(t, knownKey), api.Tape{Bytes: "tape", At: 1})
	if e != api.OK {
		t.Fatal(e)
	}
	for _, x := range known {
		label, cell := unhex(t, x.label), unhex(t, x.cell)
		then := withName(o, 0, askOf(x.word, x.epoch, x.count), label, false)
		checkLabel(t, o, x.word, x.epoch, x.count, label, then, api.OK)
		checkOpen(t, then, label, cell, x.text, api.OK)
		o = withCell(then, 0, label, x.text, cell, false)
		checkCell(t, then, label, x.text, cell, o, api.OK)
	}
}

func TestByLayersBelow(t *testing.T) {
	o, d := oracleOf(api.Real, 2, 2), oracleOf(api.Drawn, 2, 2)
	labelKey, e := mac.Derive(key, "label", 32)
	if e != api.OK {
		t.Fatal(e)
	}
	cellKey, e := mac.Derive(key, "cell", 32)
	if e != api.OK {
		t.Fatal(e)
	}
	tag, _ := mac.Mac(labelKey, askOf("x", 1, 2))
	checkLabel(t, o, "x", 1, 2, tag[:16], withName(o, 0, askOf("x", 1, 2), tag[:16], false), api.OK)
	box, _ := seal.Seal(cellKey, tag[:16], "", textOf(1))
	checkCell(t, o, tag[:16], textOf(1), box, withCell(o, 0, tag[:16], textOf(1), box, false), api.OK)
	checkOpen(t, o, tag[:16], box, textOf(1), api.OK)

	then := d
	label, n, _ := ideal.Label(d.Ideal, askOf("x", 1, 2))
	then.Ideal = n
	checkLabel(t, d, "x", 1, 2, label, then, api.OK)
	cell, n, _ := ideal.Seal(d.Ideal, label, textOf(1))
	then.Ideal = n
	checkCell(t, d, label, textOf(1), cell, then, api.OK)
	checkOpen(t, then, label, cell, textOf(1), api.OK)
}

// I3

func TestLabelReal(t *testing.T) {
	for _, key := range []string{key, strings.Repeat("\x00", 32), strings.Repeat("ä", 16)} {
		// A tape on which nothing is left is as good as any.
		for _, tape := range []api.Tape{{}, {Bytes: "tape", At: 4}, {Bytes: sample(50), At: 3}} {
			o, _ := oracle.New(api.Real, key, tape)
			for _, word := range rightWords() {
				in := askOf(word, 1000000, 258)
				out := libraryLabel(key, in)
				then := withName(o, 0, in, out, false)
				checkLabel(t, o, word, 1000000, 258, out, then, api.OK)
				checkLabel(t, then, word, 1000000, 258, out, then, api.OK)
				o = then
			}
		}
	}
}

func TestLabelDrawn(t *testing.T) {
	o, _ := oracle.New(api.Drawn, key, api.Tape{Bytes: "?" + labelOf(1) + labelOf(2) + labelOf(1) + "rest", At: 1})
	for _, x := range []struct {
		word         string
		epoch, count int
		out          string
		clash        bool
	}{{"a", 0, 0, labelOf(1), false}, {"a", 0, 1, labelOf(2), false}, {"", 1000000, 1000000, labelOf(1), true}} {
		then := withName(o, 16, askOf(x.word, x.epoch, x.count), x.out, x.clash)
		checkLabel(t, o, x.word, x.epoch, x.count, x.out, then, api.OK)
		checkLabel(t, then, x.word, x.epoch, x.count, x.out, then, api.OK)
		o = then
	}
	checkLabel(t, o, "a", 0, 2, "", o, api.ErrTape)
	checkLabel(t, o, "a", 0, 1, labelOf(2), o, api.OK)
}

// The key draws nothing: another one is answered the same.
func TestDrawnByNoKey(t *testing.T) {
	for _, key := range []string{key, strings.Repeat("\x00", 32)} {
		o := oracleOf(api.Drawn, 2, 2)
		o.Key = key
		out, cell := o.Ideal.Tape.Bytes[7:23], o.Ideal.Tape.Bytes[7:47]
		checkLabel(t, o, "x", 0, 0, out, withName(o, 16, askOf("x", 0, 0), out, false), api.OK)
		checkCell(t, o, labelOf(0), textOf(1), cell, withCell(o, 40, labelOf(0), textOf(1), cell, false), api.OK)
		checkOpen(t, o, labelOf(1), cellOf(1), textOf(1), api.OK)
	}
}

// What was answered is answered again, whatever it was: by a key too, it is not made anew.
func TestLabelAnsweredBefore(t *testing.T) {
	for _, mode := range modes() {
		for _, names := range []int{5, 2000} {
			o := oracleOf(mode, names, 1)
			o.Ideal.Tape.At = 300
			for _, i := range []int{0, 2, 4, names - 1} {
				checkLabel(t, o, "word", 3, i, labelOf(i), o, api.OK)
			}
		}
	}
}

func TestLabelOfTooFewBytes(t *testing.T) {
	for left := range 34 {
		for _, mode := range modes() {
			o := oracleOf(mode, 2, 2)
			o.Ideal.Tape = api.Tape{Bytes: sample(50), At: 50 - left}
			in := askOf("x", 1, 2)
			switch real := libraryLabel(key, in); {
			case mode == api.Real:
				checkLabel(t, o, "x", 1, 2, real, withName(o, 0, in, real, false), api.OK)
			case left < 16:
				checkLabel(t, o, "x", 1, 2, "", o, api.ErrTape)
			default:
				out := sample(50)[50-left:][:16]
				checkLabel(t, o, "x", 1, 2, out, withName(o, 16, in, out, false), api.OK)
			}
		}
	}
}

func TestLabelOfAsManyAsMayBe(t *testing.T) {
	in := askOf("x", 1, 2)
	real := oracleOf(api.Real, 1999, maxCells)
	out := libraryLabel(key, in)
	checkLabel(t, real, "x", 1, 2, out, withName(real, 0, in, out, false), api.OK)
	drawn := oracleOf(api.Drawn, 1999, maxCells)
	out = drawn.Ideal.Tape.Bytes[7:23]
	checkLabel(t, drawn, "x", 1, 2, out, withName(drawn, 16, in, out, false), api.OK)
	for _, mode := range modes() {
		full := oracleOf(mode, 2000, 2)
		for _, at := range []int{7, 290, 300} {
			full.Ideal.Tape.At = at
			checkLabel(t, full, "x", 1, 2, "", full, api.ErrLong)
			checkLabel(t, full, "x", 1, -1, "", full, api.ErrArg)
		}
	}
}

// A label that another question was answered already is a clash, by a key too.
func TestClashOfLabels(t *testing.T) {
	in := askOf("x", 1, 2)
	real := oracleOf(api.Real, 5, 3)
	out := libraryLabel(key, in)
	real.Ideal.Names[2].Out = out
	then := withName(real, 0, in, out, true)
	checkLabel(t, real, "x", 1, 2, out, then, api.OK)
	// Once there is one, there is one.
	next := libraryLabel(key, askOf("y", 0, 0))
	checkLabel(t, then, "y", 0, 0, next, withName(then, 0, askOf("y", 0, 0), next, true), api.OK)

	drawn := oracleOf(api.Drawn, 5, 3)
	out = drawn.Ideal.Tape.Bytes[7:23]
	drawn.Ideal.Names[2].Out = out
	checkLabel(t, drawn, "x", 1, 2, out, withName(drawn, 16, in, out, true), api.OK)
}

func TestLabelWrong(t *testing.T) {
	for _, o := range rightOracles() {
		wrongAsks(func(word string, epoch, count int) {
			checkLabel(t, o, word, epoch, count, "", o, api.ErrArg)
		})
	}
	for _, o := range wrongOracles() {
		checkLabel(t, o, "word", 3, 0, "", o, api.ErrArg)
		checkLabel(t, o, "x", 1, 2, "", o, api.ErrArg)
		checkLabel(t, o, sample(21), -1, -1, "", o, api.ErrArg)
	}
}

// I4

func labels() []string {
	return []string{labelOf(0), strings.Repeat("\x00", 16), strings.Repeat("\xff", 16), strings.Repeat("ä", 8)}
}

func texts() []string {
	return []string{textOf(0), strings.Repeat("\x00", 24), strings.Repeat("\xff", 24), strings.Repeat("ä", 12), sample(24)}
}

func TestCellReal(t *testing.T) {
	for _, key := range []string{key, strings.Repeat("\x00", 32), strings.Repeat("ä", 16)} {
		for _, tape := range []api.Tape{{}, {Bytes: "tape", At: 4}, {Bytes: sample(90), At: 3}} {
			o, _ := oracle.New(api.Real, key, tape)
			for _, label := range labels() {
				for _, text := range texts() {
					cell := libraryCell(key, label, text)
					then := withCell(o, 0, label, text, cell, false)
					checkCell(t, o, label, text, cell, then, api.OK)
					checkCell(t, then, label, text, cell, then, api.OK)
					o = then
				}
			}
		}
	}
}

func TestCellDrawn(t *testing.T) {
	o, _ := oracle.New(api.Drawn, key, api.Tape{Bytes: "?" + cellOf(1) + cellOf(2) + cellOf(1) + cellOf(1) + "rest", At: 1})
	l, m := labelOf(1), labelOf(2)
	for _, x := range []struct {
		label, text, cell string
		clash             bool
	}{{l, textOf(1), cellOf(1), false}, {l, textOf(2), cellOf(2), false}, {m, textOf(1), cellOf(1), false}, {l, textOf(3), cellOf(1), true}} {
		then := withCell(o, 40, x.label, x.text, x.cell, x.clash)
		checkCell(t, o, x.label, x.text, x.cell, then, api.OK)
		checkCell(t, then, x.label, x.text, x.cell, then, api.OK)
		o = then
	}
	checkCell(t, o, m, textOf(2), "", o, api.ErrTape)
	checkCell(t, o, l, textOf(2), cellOf(2), o, api.OK)
}

func TestCellMadeBefore(t *testing.T) {
	for _, mode := range modes() {
		for _, cells := range []int{5, maxCells} {
			o := oracleOf(mode, 1, cells)
			o.Ideal.Tape.At = 300
			for _, i := range []int{0, 2, 4, cells - 1} {
				checkCell(t, o, labelOf(i), textOf(i), cellOf(i), o, api.OK)
			}
		}
	}
}

func TestCellOfTooFewBytes(t *testing.T) {
	real := libraryCell(key, labelOf(0), textOf(1))
	for left := range 82 {
		for _, mode := range modes() {
			o := oracleOf(mode, 2, 2)
			o.Ideal.Tape = api.Tape{Bytes: sample(90), At: 90 - left}
			switch {
			case mode == api.Real:
				checkCell(t, o, labelOf(0), textOf(1), real, withCell(o, 0, labelOf(0), textOf(1), real, false), api.OK)
			case left < 40:
				checkCell(t, o, labelOf(0), textOf(1), "", o, api.ErrTape)
			default:
				cell := sample(90)[90-left:][:40]
				checkCell(t, o, labelOf(0), textOf(1), cell, withCell(o, 40, labelOf(0), textOf(1), cell, false), api.OK)
			}
		}
	}
}

func TestCellOfAsManyAsMayBe(t *testing.T) {
	real := oracleOf(api.Real, 2000, maxCells-1)
	cell := libraryCell(key, labelOf(0), textOf(1))
	checkCell(t, real, labelOf(0), textOf(1), cell, withCell(real, 0, labelOf(0), textOf(1), cell, false), api.OK)
	drawn := oracleOf(api.Drawn, 2000, maxCells-1)
	cell = drawn.Ideal.Tape.Bytes[7:47]
	checkCell(t, drawn, labelOf(0), textOf(1), cell, withCell(drawn, 40, labelOf(0), textOf(1), cell, false), api.OK)
	for _, mode := range modes() {
		full := oracleOf(mode, 2, maxCells)
		for _, at := range []int{7, 270, 300} {
			full.Ideal.Tape.At = at
			checkCell(t, full, labelOf(0), textOf(1), "", full, api.ErrLong)
			checkCell(t, full, labelOf(0), "text", "", full, api.ErrArg)
		}
	}
}

func TestClashOfCells(t *testing.T) {
	real := oracleOf(api.Real, 3, 5)
	cell := libraryCell(key, labelOf(2), textOf(7))
	real.Ideal.Cells[2].Cell = cell
	checkCell(t, real, labelOf(2), textOf(7), cell, withCell(real, 0, labelOf(2), textOf(7), cell, true), api.OK)
	// Under another label, it is none.
	real.Ideal.Cells[2].Label = labelOf(9)
	checkCell(t, real, labelOf(2), textOf(7), cell, withCell(real, 0, labelOf(2), textOf(7), cell, false), api.OK)

	drawn := oracleOf(api.Drawn, 3, 5)
	cell = drawn.Ideal.Tape.Bytes[7:47]
	drawn.Ideal.Cells[2].Cell = cell
	checkCell(t, drawn, labelOf(2), textOf(7), cell, withCell(drawn, 40, labelOf(2), textOf(7), cell, true), api.OK)
}

func TestCellWrong(t *testing.T) {
	for _, o := range rightOracles() {
		for _, n := range []int{0, 1, 15, 17, 24, 32, 1 << 20} {
			checkCell(t, o, sample(n), textOf(0), "", o, api.ErrArg)
		}
		for _, n := range []int{0, 1, 16, 23, 25, 40, 1 << 20} {
			checkCell(t, o, labelOf(0), sample(n), "", o, api.ErrArg)
		}
		checkCell(t, o, strings.Repeat("ä", 16), textOf(0), "", o, api.ErrArg)
		checkCell(t, o, labelOf(0), strings.Repeat("ä", 24), "", o, api.ErrArg)
		// As many bytes in all.
		checkCell(t, o, sample(17), sample(23), "", o, api.ErrArg)
		checkCell(t, o, sample(15), sample(25), "", o, api.ErrArg)
	}
	for _, o := range wrongOracles() {
		checkCell(t, o, labelOf(0), textOf(0), "", o, api.ErrArg)
		checkCell(t, o, labelOf(0), textOf(1), "", o, api.ErrArg)
		checkCell(t, o, "l", "t", "", o, api.ErrArg)
	}
}

// I5

// By a key, what is right is opened, whoever made it, and nothing else is, whatever is told of it.
func TestOpenReal(t *testing.T) {
	o := oracleOf(api.Real, 3, 3)
	for _, label := range labels() {
		for _, text := range texts() {
			checkOpen(t, o, label, libraryCell(key, label, text), text, api.OK)
			checkOpen(t, o, label, libraryCell(sample(64)[:32], label, text), "", api.ErrTag)
		}
	}
	checkOpen(t, o, labelOf(1), cellOf(1), "", api.ErrTag)
	o.Ideal.Cells[1].Cell = libraryCell(key, labelOf(1), textOf(7))
	checkOpen(t, o, labelOf(1), o.Ideal.Cells[1].Cell, textOf(7), api.OK)
}

// Where it is drawn, what was made is opened, and nothing else is.
func TestOpenDrawn(t *testing.T) {
	o := oracleOf(api.Drawn, 3, 3)
	for i := range 3 {
		checkOpen(t, o, labelOf(i), cellOf(i), textOf(i), api.OK)
		checkOpen(t, o, labelOf(i), cellOf((i+1)%3), "", api.ErrTag)
		checkOpen(t, o, labelOf(7), cellOf(i), "", api.ErrTag)
		checkOpen(t, o, labelOf(i), libraryCell(key, labelOf(i), textOf(i)), "", api.ErrTag)
	}
	// Of a clash, the first one.
	o.Ideal.Cells[2].Label, o.Ideal.Cells[2].Cell, o.Ideal.Clash = labelOf(1), cellOf(1), true
	checkOpen(t, o, labelOf(1), cellOf(1), textOf(1), api.OK)
}

func TestOpenOneBit(t *testing.T) {
	for _, mode := range modes() {
		o := oracleOf(mode, 1, 3)
		label, cell := labelOf(1), cellOf(1)
		if mode == api.Real {
			cell = libraryCell(key, label, textOf(1))
		}
		checkOpen(t, o, label, cell, textOf(1), api.OK)
		for at := range len(label + cell) {
			for bit := range 8 {
				b := []byte(label + cell)
				b[at] ^= 1 << bit
				checkOpen(t, o, string(b[:16]), string(b[16:]), "", api.ErrTag)
			}
		}
	}
}

func TestOpenWrong(t *testing.T) {
	for _, o := range rightOracles() {
		right := libraryCell(o.Key, labelOf(0), textOf(0))
		for _, n := range []int{0, 1, 15, 17, 32, 1 << 20} {
			checkOpen(t, o, sample(n), right, "", api.ErrTag)
			checkOpen(t, o, sample(n), cellOf(0), "", api.ErrTag)
		}
		// A cell that is too short, too long, or a right one of a text of another length, has another tag.
		for _, n := range []int{0, 1, 15, 16, 39, 41, 65552, 65553, 1 << 20} {
			checkOpen(t, o, labelOf(0), sample(n), "", api.ErrTag)
		}
		for _, n := range []int{0, 23, 25, 65536} {
			cellKey, _ := mac.Derive(o.Key, "cell", 32)
			box, _ := seal.Seal(cellKey, labelOf(0), "", sample(n))
			checkOpen(t, o, labelOf(0), box, "", api.ErrTag)
		}
		checkOpen(t, o, "", "", "", api.ErrTag)
		// A byte does not go from one to the other unseen.
		checkOpen(t, o, labelOf(0)[:15], labelOf(0)[15:]+right, "", api.ErrTag)
		checkOpen(t, o, labelOf(0)+right[:1], right[1:], "", api.ErrTag)
	}
	for _, o := range wrongOracles() {
		checkOpen(t, o, labelOf(0), cellOf(0), "", api.ErrArg)
		checkOpen(t, o, labelOf(0), libraryCell(key, labelOf(0), textOf(0)), "", api.ErrArg)
		checkOpen(t, o, "l", cellOf(0), "", api.ErrArg)
		checkOpen(t, o, labelOf(0), "", "", api.ErrArg)
	}
}
