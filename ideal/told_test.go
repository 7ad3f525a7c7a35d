package ideal

import (
	"iter"
	"slices"
	"testing"

	"columbarium/api"
)

// The ways of the chapter: names and cells are told one by one, what was asked is found whatever it is, and what is told twice is seen.

// told is what an iterator tells, with both things of each in one.
type told[K comparable] struct {
	key    K
	answer string
}

func allOf[K comparable](l iter.Seq2[K, string]) []told[K] {
	var out []told[K]
	for k, answer := range l {
		out = append(out, told[K]{k, answer})
	}
	return out
}

func checkTold[K comparable](t *testing.T, l iter.Seq2[K, string], want ...told[K]) {
	t.Helper()
	// Gone through twice: what tells them begins anew.
	for range 2 {
		if got := allOf(l); !slices.Equal(got, want) {
			t.Errorf("%v, want %v", got, want)
		}
	}
	// And ended after each: nothing more is told.
	for n := range want {
		var got []told[K]
		for k, answer := range l {
			got = append(got, told[K]{k, answer})
			if len(got) == n+1 {
				break
			}
		}
		if !slices.Equal(got, want[:n+1]) {
			t.Errorf("ended after %d: %v", n+1, got)
		}
	}
}

func TestNamesAndCellsAreTold(t *testing.T) {
	none := api.Ideal{}
	checkTold(t, names(none))
	checkTold(t, outs(none))
	checkTold(t, cells(none))
	checkTold(t, texts(none))
	d := api.Ideal{
		Names: []api.Name{{In: "x", Out: "1"}, {In: "", Out: "2"}, {In: "y", Out: "1"}},
		Cells: []api.Made{{Label: "l", Text: "t", Cell: "c"}, {Label: "l", Text: "u", Cell: "c"}},
	}
	checkTold(t, names(d), told[string]{"x", "1"}, told[string]{"", "2"}, told[string]{"y", "1"})
	checkTold(t, outs(d), told[string]{"1", "x"}, told[string]{"2", ""}, told[string]{"1", "y"})
	checkTold(t, cells(d), told[sealed]{sealed{"l", "t"}, "c"}, told[sealed]{sealed{"l", "u"}, "c"})
	checkTold(t, texts(d), told[opened]{opened{"l", "c"}, "t"}, told[opened]{opened{"l", "c"}, "u"})
}

func checkFind[K comparable](t *testing.T, l iter.Seq2[K, string], asked K, want string, is bool) {
	t.Helper()
	if got, found := find(l, asked); got != want || found != is {
		t.Errorf("%v: %q, %v, want %q, %v", asked, got, found, want, is)
	}
}

func TestAnythingIsFound(t *testing.T) {
	numbered := slices.All([]string{"a", "", "c"})
	checkFind(t, numbered, 0, "a", true)
	checkFind(t, numbered, 1, "", true)
	checkFind(t, numbered, 2, "c", true)
	checkFind(t, numbered, 3, "", false)
	checkFind(t, numbered, -1, "", false)
	first := pairs("x", "1", "", "2", "x", "3", "y", "4")
	checkFind(t, first, "x", "1", true)
	checkFind(t, first, "", "2", true)
	checkFind(t, first, "y", "4", true)
	checkFind(t, first, "X", "", false)
	checkFind(t, pairs(), "", "", false)
}

// pairs tells texts two by two.
func pairs(l ...string) iter.Seq2[string, string] {
	return func(yield func(string, string) bool) {
		for pair := range slices.Chunk(l, 2) {
			if !yield(pair[0], pair[1]) {
				return
			}
		}
	}
}

func TestWhatIsToldTwice(t *testing.T) {
	for i, x := range []struct {
		l  []string
		is bool
	}{
		{nil, false},
		{[]string{"x", "1"}, false},
		{[]string{"x", "1", "x", "1"}, true},
		{[]string{"x", "1", "x", "2"}, true},
		{[]string{"x", "1", "y", "1"}, false},
		{[]string{"", "1", "y", "1", "", "3"}, true},
		{[]string{"x", "y", "y", "x"}, false},
		{[]string{"w", "1", "x", "1", "y", "1", "z", "1", "z", "1"}, true},
	} {
		// How much room is made ahead makes no difference.
		for _, many := range []int{0, 1, len(x.l), 2000} {
			if is := twice(pairs(x.l...), many); is != x.is {
				t.Errorf("%d, room for %d: %v", i, many, is)
			}
		}
	}
	// Two texts are not one, even if they are the same where they are put together.
	d := api.Ideal{Cells: []api.Made{{Label: "ab", Text: "c", Cell: "c"}, {Label: "a", Text: "bc", Cell: "bc"}}}
	if twice(cells(d), 2) || twice(texts(d), 2) {
		t.Error("put together")
	}
}
