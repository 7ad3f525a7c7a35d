package tape_test

import (
	"math"
	"math/rand"
	"slices"
	"strings"
	"sync"
	"testing"

	"columbarium/api"
	"columbarium/tape"
)

const (
	mostBelow  = 1 << 16
	mostTurned = 1000
)

// sample is n bytes of all values, without a short period.
func sample(n int) string {
	b := make([]byte, n)
	rand.New(rand.NewSource(int64(n) + 7)).Read(b)
	return string(b)
}

// rightTapes are of all kinds: with nothing on them, with nothing left, with as many bytes as may be, and with letters of two bytes.
func rightTapes() []api.Tape {
	most := sample(api.MaxTape)
	return []api.Tape{
		{},
		{Bytes: "a"},
		{Bytes: "a", At: 1},
		{Bytes: "\x01\x02"},
		{Bytes: "abcdef", At: 2},
		{Bytes: "abcdef", At: 5},
		{Bytes: "abcdef", At: 6},
		{Bytes: "äöü", At: 6},
		{Bytes: sample(3000), At: 17},
		{Bytes: most},
		{Bytes: most, At: 40000},
		{Bytes: most, At: api.MaxTape - 1},
		{Bytes: most, At: api.MaxTape},
	}
}

// wrongTapes are too long, or were taken from beyond an end.
func wrongTapes() []api.Tape {
	most := sample(api.MaxTape)
	return []api.Tape{
		{At: -1},
		{At: 1},
		{At: math.MinInt},
		{At: math.MaxInt},
		{Bytes: "abc", At: -1},
		{Bytes: "abc", At: 4},
		{Bytes: "abc", At: math.MinInt},
		{Bytes: "abc", At: math.MaxInt},
		{Bytes: "äöü", At: 7},
		{Bytes: most, At: -1},
		{Bytes: most, At: api.MaxTape + 1},
		{Bytes: most + "a"},
		{Bytes: most + "a", At: 5},
		{Bytes: most + "a", At: api.MaxTape},
		{Bytes: most + "a", At: api.MaxTape + 1},
		{Bytes: most + "a", At: -1},
		{Bytes: strings.Repeat(most, 3), At: api.MaxTape},
	}
}

// lists are of many lengths, of the longest too, with things that are there twice, below 0 and at the ends of what numbers there are.
func lists() [][]int {
	out := [][]int{nil, {}, {math.MinInt, math.MaxInt}, {7, 7, 7}, {-1, 0, 1, 0, -1}}
	for _, n := range []int{1, 2, 3, 4, 10, 100, 256, 257, 258, mostTurned - 1, mostTurned} {
		l := make([]int, n)
		for i := range l {
			l[i] = 1000 - 3*i
		}
		out = append(out, l)
	}
	return out
}

// moved is a tape, so many further.
func moved(t api.Tape, n int) api.Tape {
	t.At += n
	return t
}

// G1

func TestRight(t *testing.T) {
	for i, x := range rightTapes() {
		if !tape.Right(x) {
			t.Errorf("%d: %d bytes, at %d: not right", i, len(x.Bytes), x.At)
		}
	}
	for i, x := range wrongTapes() {
		if tape.Right(x) {
			t.Errorf("%d: %d bytes, at %d: right", i, len(x.Bytes), x.At)
		}
	}
	for at := -3; at <= 8; at++ {
		if got, want := tape.Right(api.Tape{Bytes: "abcde", At: at}), at >= 0 && at <= 5; got != want {
			t.Errorf("at %d: %v", at, got)
		}
	}
}

func TestLeft(t *testing.T) {
	for i, want := range []int{0, 1, 0, 2, 4, 1, 0, 0, 2983, 65536, 25536, 1, 0} {
		if got := tape.Left(rightTapes()[i]); got != want {
			t.Errorf("%d: %d, want %d", i, got, want)
		}
	}
	for i, x := range wrongTapes() {
		if got := tape.Left(x); got != 0 {
			t.Errorf("%d: not right, %d left", i, got)
		}
	}
}

// G2

func checkTake(t *testing.T, x api.Tape, n int, want string, then api.Tape, e api.Errno) {
	t.Helper()
	got, rest, f := tape.Take(x, n)
	if got != want || rest != then || f != e {
		t.Errorf("%d of %d bytes, at %d: %d bytes, at %d, error %d; want %d bytes, at %d, error %d", n, len(x.Bytes), x.At, len(got), rest.At, f, len(want), then.At, e)
	}
}

func TestTake(t *testing.T) {
	x := api.Tape{Bytes: "a\x00ä\xffz", At: 1}
	checkTake(t, x, 0, "", x, api.OK)
	checkTake(t, x, 1, "\x00", moved(x, 1), api.OK)
	checkTake(t, x, 2, "\x00\xc3", moved(x, 2), api.OK)
	checkTake(t, x, 4, "\x00ä\xff", moved(x, 4), api.OK)
	checkTake(t, x, 5, "\x00ä\xffz", moved(x, 5), api.OK)
	for _, x := range rightTapes() {
		left := x.Bytes[x.At:]
		for _, n := range []int{0, 1, 2, 3, 100, len(left) - 1, len(left)} {
			if n >= 0 && n <= len(left) {
				checkTake(t, x, n, left[:n], moved(x, n), api.OK)
			}
		}
	}
}

func TestTakeOfTooFew(t *testing.T) {
	for _, x := range rightTapes() {
		left := tape.Left(x)
		for _, more := range []int{1, 2, 256, api.MaxTape, math.MaxInt - left} {
			checkTake(t, x, left+more, "", x, api.ErrTape)
		}
	}
}

func TestTakeRefuses(t *testing.T) {
	for _, x := range rightTapes() {
		for _, n := range []int{-1, -2, -256, -api.MaxTape, math.MinInt} {
			checkTake(t, x, n, "", x, api.ErrArg)
		}
	}
	// A tape that is not right is told ahead of one with too few bytes.
	for _, x := range wrongTapes() {
		for _, n := range []int{0, 1, 5, -1, -x.At, api.MaxTape + 1, math.MaxInt, math.MinInt} {
			checkTake(t, x, n, "", x, api.ErrArg)
		}
	}
}

// G3

func checkNumber(t *testing.T, x api.Tape, below, want int, then api.Tape, e api.Errno) {
	t.Helper()
	got, rest, f := tape.Number(x, below)
	if got != want || rest != then || f != e {
		t.Errorf("below %d of %d bytes, at %d: %d, at %d, error %d; want %d, at %d, error %d", below, len(x.Bytes), x.At, got, rest.At, f, want, then.At, e)
	}
}

func TestNumberAsDocumented(t *testing.T) {
	x := api.Tape{Bytes: "\x01\x02"}
	checkNumber(t, x, 100, 58, moved(x, 2), api.OK)
	checkNumber(t, x, mostBelow, 258, moved(x, 2), api.OK)
	checkNumber(t, x, 259, 258, moved(x, 2), api.OK)
	checkNumber(t, x, 258, 0, moved(x, 2), api.OK)
	checkNumber(t, x, 257, 1, moved(x, 2), api.OK)
	checkNumber(t, x, 1, 0, moved(x, 2), api.OK)
	x = api.Tape{Bytes: "??\xff\xff??", At: 2}
	checkNumber(t, x, mostBelow, mostBelow-1, moved(x, 2), api.OK)
	checkNumber(t, x, mostBelow-1, 0, moved(x, 2), api.OK)
	checkNumber(t, x, 2, 1, moved(x, 2), api.OK)
}

func TestNumberOfAllBytes(t *testing.T) {
	belows := []int{1, 2, 3, 10, 100, 255, 256, 257, 1000, 32768, 65521, mostBelow - 1, mostBelow}
	for high := range 256 {
		for low := range 256 {
			x := api.Tape{Bytes: string([]byte{9, byte(high), byte(low), 9}), At: 1}
			for _, below := range belows {
				checkNumber(t, x, below, (high*256+low)%below, moved(x, 2), api.OK)
			}
		}
	}
}

func TestNumberOfTooFew(t *testing.T) {
	for _, x := range rightTapes() {
		for _, below := range []int{1, 2, 256, mostBelow} {
			if tape.Left(x) < 2 {
				checkNumber(t, x, below, 0, x, api.ErrTape)
			}
		}
	}
}

func TestNumberRefuses(t *testing.T) {
	// What is below 1 or above 65536 is told ahead of a tape with too few bytes.
	for _, x := range rightTapes() {
		for _, below := range []int{0, -1, -100, math.MinInt, mostBelow + 1, 2 * mostBelow, math.MaxInt} {
			checkNumber(t, x, below, 0, x, api.ErrArg)
		}
	}
	for _, x := range wrongTapes() {
		for _, below := range []int{1, 5, mostBelow, 0, -1, mostBelow + 1} {
			checkNumber(t, x, below, 0, x, api.ErrArg)
		}
	}
}

// G4

// turned is a list in the order that its promise's steps give it, told over again: what is drawn is at the bytes' beginning.
func turned(bytes string, l []int) []int {
	out := append([]int{}, l...)
	for i := len(out) - 1; i > 0; i-- {
		from := 2 * (len(out) - 1 - i)
		j := (int(bytes[from])*256 + int(bytes[from+1])) % (i + 1)
		at := out[j]
		out[j] = out[i]
		out[i] = at
	}
	return out
}

func checkTurn(t *testing.T, x api.Tape, l, want []int, then api.Tape, e api.Errno) {
	t.Helper()
	got, rest, f := tape.Turn(x, l...)
	if !slices.Equal(got, want) || rest != then || f != e {
		t.Errorf("%d of %d bytes, at %d: %v, at %d, error %d; want %v, at %d, error %d", len(l), len(x.Bytes), x.At, got, rest.At, f, want, then.At, e)
	}
}

func TestTurn(t *testing.T) {
	// Of five: below 5 is 0, below 4 is 3, below 3 is 1, below 2 is 0.
	x := api.Tape{Bytes: "?\x00\x05\x01\x03\xff\xfd\x00\x02?", At: 1}
	checkTurn(t, x, []int{10, 11, 12, 13, 14}, []int{12, 14, 11, 13, 10}, moved(x, 8), api.OK)
	checkTurn(t, x, []int{7, 7, 8, 7, 7}, []int{8, 7, 7, 7, 7}, moved(x, 8), api.OK)
	// Where each is drawn for its own place, all is as it was.
	x = api.Tape{Bytes: "\x00\x03\x00\x02\x00\x01"}
	checkTurn(t, x, []int{10, 11, 12, 13}, []int{10, 11, 12, 13}, moved(x, 6), api.OK)
	// Where the first place is always drawn, each goes one place down.
	x = api.Tape{Bytes: strings.Repeat("\x00", 6)}
	checkTurn(t, x, []int{10, 11, 12, 13}, []int{11, 12, 13, 10}, moved(x, 6), api.OK)
}

func TestTurnByItsSteps(t *testing.T) {
	for _, bytes := range []string{sample(3000), sample(2100), strings.Repeat("\xff", 3000), strings.Repeat("\x01\x00", 1500)} {
		for _, at := range []int{0, 1, 50} {
			x := api.Tape{Bytes: bytes, At: at}
			for _, l := range lists() {
				checkTurn(t, x, l, turned(bytes[at:], l), moved(x, 2*max(len(l)-1, 0)), api.OK)
			}
		}
	}
}

func TestTurnOfFewNeedsNoBytes(t *testing.T) {
	for _, x := range rightTapes() {
		checkTurn(t, x, nil, nil, x, api.OK)
		checkTurn(t, x, []int{}, nil, x, api.OK)
		checkTurn(t, x, []int{-5}, []int{-5}, x, api.OK)
	}
}

func TestTurnOfTooFew(t *testing.T) {
	for _, l := range lists() {
		need := 2 * max(len(l)-1, 0)
		bytes := sample(need)
		x := api.Tape{Bytes: bytes}
		checkTurn(t, x, l, turned(bytes, l), moved(x, need), api.OK)
		for _, less := range []int{1, 2, 3, need / 2, need} {
			if less > 0 && less <= need {
				// The bytes are missing at the end, or were taken.
				x := api.Tape{Bytes: bytes[less:]}
				checkTurn(t, x, l, nil, x, api.ErrTape)
				x = api.Tape{Bytes: bytes, At: less}
				checkTurn(t, x, l, nil, x, api.ErrTape)
			}
		}
	}
}

func TestTurnRefuses(t *testing.T) {
	long := [][]int{make([]int, mostTurned+1), make([]int, 2*mostTurned), make([]int, 1<<17)}
	// A list that is too long is told ahead of a tape with too few bytes.
	for _, x := range rightTapes() {
		for _, l := range long {
			checkTurn(t, x, l, nil, x, api.ErrLong)
		}
	}
	// And a tape that is not right ahead of both.
	for _, x := range wrongTapes() {
		for _, l := range append(long, lists()...) {
			checkTurn(t, x, l, nil, x, api.ErrArg)
		}
	}
}

// G5

func TestInPartsOrAtOnce(t *testing.T) {
	for _, x := range rightTapes() {
		left := tape.Left(x)
		for _, first := range []int{0, 1, 2, left / 3, left / 2, left - 1, left} {
			for _, second := range []int{0, 1, 5, left / 2, left - first} {
				if first < 0 || second < 0 || first+second > left {
					continue
				}
				all, end, _ := tape.Take(x, first+second)
				a, between, _ := tape.Take(x, first)
				b, then, _ := tape.Take(between, second)
				if a+b != all || then != end {
					t.Errorf("%d and %d of %d", first, second, left)
				}
			}
		}
	}
}

func TestWhatStandsBehind(t *testing.T) {
	list := lists()[8]
	bytes := sample(api.MaxTape)
	for _, at := range []int{0, 3, 100} {
		for _, n := range []int{0, 1, 2, 7, 500} {
			for _, behind := range []string{"", "\x00", "\xff\xff", sample(2000)} {
				long, short := api.Tape{Bytes: bytes, At: at}, api.Tape{Bytes: bytes[:at+n] + behind, At: at}
				checkTake(t, short, n, bytes[at:at+n], moved(short, n), api.OK)
				if n >= 2 {
					number, _, _ := tape.Number(long, 1000)
					checkNumber(t, short, 1000, number, moved(short, 2), api.OK)
				}
				if need := 2 * (len(list) - 1); n >= need {
					order, _, _ := tape.Turn(long, list...)
					checkTurn(t, short, list, order, moved(short, need), api.OK)
				}
			}
		}
	}
}

func TestTurnedIsWhatThereWas(t *testing.T) {
	for at := range 200 {
		for _, l := range lists() {
			got, _, e := tape.Turn(api.Tape{Bytes: sample(3000), At: at}, l...)
			if e != api.OK || !slices.Equal(slices.Sorted(slices.Values(got)), slices.Sorted(slices.Values(l))) {
				t.Errorf("at %d: %v of %v", at, got, l)
			}
		}
	}
}

func TestEachOrderCanBeDrawn(t *testing.T) {
	seen := map[[4]int]int{}
	for a := range 4 {
		for b := range 3 {
			for c := range 2 {
				got, _, _ := tape.Turn(api.Tape{Bytes: string([]byte{0, byte(a), 0, byte(b), 0, byte(c)})}, 1, 2, 3, 4)
				seen[[4]int(got)]++
			}
		}
	}
	if len(seen) != 24 {
		t.Error(seen)
	}
}

// R1 to R4, at drawn arguments too

func TestDrawnArguments(t *testing.T) {
	r := rand.New(rand.NewSource(7))
	for range 20000 {
		x := api.Tape{Bytes: sample(r.Intn(40)), At: r.Intn(50) - 5}
		right := x.At >= 0 && x.At <= len(x.Bytes)
		n, below, l := r.Intn(50)-5, r.Intn(400)-5, make([]int, r.Intn(25))
		for i := range l {
			l[i] = r.Intn(10)
		}
		if !right || n < 0 {
			checkTake(t, x, n, "", x, api.ErrArg)
		} else if n > len(x.Bytes)-x.At {
			checkTake(t, x, n, "", x, api.ErrTape)
		} else {
			checkTake(t, x, n, x.Bytes[x.At:x.At+n], moved(x, n), api.OK)
		}
		if !right || below < 1 {
			checkNumber(t, x, below, 0, x, api.ErrArg)
		} else if x.At+2 > len(x.Bytes) {
			checkNumber(t, x, below, 0, x, api.ErrTape)
		} else {
			checkNumber(t, x, below, (int(x.Bytes[x.At])*256+int(x.Bytes[x.At+1]))%below, moved(x, 2), api.OK)
		}
		if need := 2 * max(len(l)-1, 0); !right {
			checkTurn(t, x, l, nil, x, api.ErrArg)
		} else if x.At+need > len(x.Bytes) {
			checkTurn(t, x, l, nil, x, api.ErrTape)
		} else {
			checkTurn(t, x, l, turned(x.Bytes[x.At:], l), moved(x, need), api.OK)
		}
	}
}

func TestListsAreNotWrittenInto(t *testing.T) {
	room := []int{1, 2, 3, 4, 5, 6, 7, 8}
	want := slices.Clone(room)
	x := api.Tape{Bytes: strings.Repeat("\x00", 8)}
	for n := range 6 {
		got, _, e := tape.Turn(x, room[:n]...)
		if e != api.OK || !slices.Equal(room, want) {
			t.Fatalf("%d: %v, error %d", n, room, e)
		}
		// What comes out is its owner's, spare room too.
		got = got[:cap(got)]
		for i := range got {
			got[i] = -1
		}
		_ = append(got, -1)
		if !slices.Equal(room, want) {
			t.Fatalf("%d: %v", n, room)
		}
	}
	if _, _, e := tape.Turn(api.Tape{Bytes: "\x00\x00\x00"}, room...); e != api.ErrTape || !slices.Equal(room, want) {
		t.Error("beside an error:", room, e)
	}
}

func TestAnswersAgain(t *testing.T) {
	x := api.Tape{Bytes: sample(3000), At: 9}
	for range 3 {
		for _, l := range lists() {
			first, _, _ := tape.Turn(x, l...)
			kept := slices.Clone(first)
			second, _, _ := tape.Turn(x, l...)
			if !slices.Equal(first, second) {
				t.Error("other the second time")
			}
			for i := range second {
				second[i]--
			}
			if !slices.Equal(first, kept) {
				t.Error("two answers share their memory")
			}
		}
	}
}

func TestAllAtOnce(t *testing.T) {
	x := api.Tape{Bytes: sample(3000), At: 9}
	l := lists()[len(lists())-1]
	want := turned(x.Bytes[x.At:], l)
	var all sync.WaitGroup
	for range 8 {
		all.Go(func() {
			for range 50 {
				checkTurn(t, x, l, want, moved(x, 2*(len(l)-1)), api.OK)
				checkTake(t, x, 40, x.Bytes[9:49], moved(x, 40), api.OK)
			}
		})
	}
	all.Wait()
}
