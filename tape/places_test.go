package tape

import (
	"slices"
	"testing"
)

// The ways of the chapter: places are told one by one, and things of any kind change places.

func TestPlacesAreTold(t *testing.T) {
	for _, x := range []struct {
		n    int
		want []int
	}{
		{0, nil},
		{1, nil},
		{2, []int{1}},
		{3, []int{2, 1}},
		{6, []int{5, 4, 3, 2, 1}},
	} {
		told := places(x.n)
		// Gone through twice: what tells them begins anew.
		for range 2 {
			if got := slices.Collect(told); !slices.Equal(got, x.want) {
				t.Errorf("of %d: %v, want %v", x.n, got, x.want)
			}
		}
	}
}

func TestTellingMayEndEarly(t *testing.T) {
	var got []int
	for i := range places(6) {
		got = append(got, i)
		if len(got) == 2 {
			break
		}
	}
	if !slices.Equal(got, []int{5, 4}) {
		t.Error(got)
	}
}

func TestAnythingChangesPlaces(t *testing.T) {
	numbers := []int{10, 11, 12, 13}
	change(numbers, 3, 1)
	if !slices.Equal(numbers, []int{10, 13, 12, 11}) {
		t.Error(numbers)
	}
	change(numbers, 2, 2)
	if !slices.Equal(numbers, []int{10, 13, 12, 11}) {
		t.Error("with itself:", numbers)
	}
	texts := []string{"a", "b", "c"}
	change(texts, 0, 2)
	if !slices.Equal(texts, []string{"c", "b", "a"}) {
		t.Error(texts)
	}
	pairs := [][2]byte{{1, 2}, {3, 4}}
	change(pairs, 1, 0)
	if !slices.Equal(pairs, [][2]byte{{3, 4}, {1, 2}}) {
		t.Error(pairs)
	}
}
