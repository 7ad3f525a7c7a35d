package server

import (
	"iter"
	"slices"
	"strings"
	"testing"

	"columbarium/api"
	"columbarium/bucket"
)

// The ways of the chapter: labels that are there are told one by one, and each kind has what it does.

// told is what an iterator tells: a place, and the cell of the label there.
type told struct {
	place int
	cell  string
}

// untilOf is what is told until there are so many.
func untilOf(l iter.Seq2[int, string], until int) []told {
	var out []told
	for place, cell := range l {
		out = append(out, told{place, cell})
		if len(out) == until {
			break
		}
	}
	return out
}

func TestLabelsThatAreThereAreTold(t *testing.T) {
	s, _ := bucket.New(8)
	for _, letter := range []string{"a", "b", "c"} {
		s, _ = bucket.Put(s, strings.Repeat(letter, 16), strings.Repeat(letter, 40))
	}
	s, _, _ = bucket.Del(s, strings.Repeat("b", 16))
	for _, x := range []struct {
		asked string
		want  []told
	}{
		{"", nil},
		{"b", nil},
		{"bd", nil},
		{"a", []told{{0, "a"}}},
		{"ca", []told{{0, "c"}, {1, "a"}}},
		{"bcda", []told{{1, "c"}, {3, "a"}}},
		{"adbc", []told{{0, "a"}, {3, "c"}}},
	} {
		var labels []string
		for _, letter := range strings.Split(x.asked, "") {
			labels = append(labels, strings.Repeat(letter, 16))
		}
		var want []told
		for _, one := range x.want {
			want = append(want, told{one.place, strings.Repeat(one.cell, 40)})
		}
		all := there(s, labels)
		// Gone through twice: what tells them begins anew. And ended after each: nothing more is told.
		for range 2 {
			if got := untilOf(all, -1); !slices.Equal(got, want) {
				t.Errorf("%s: %v, want %v", x.asked, got, want)
			}
			for n := range want {
				if got := untilOf(all, n+1); !slices.Equal(got, want[:n+1]) {
					t.Errorf("%s, ended after %d: %v", x.asked, n+1, got)
				}
			}
		}
	}
}

func TestEachKindDoesSomething(t *testing.T) {
	kinds := asked{}.kinds()
	for kind := api.Bad; kind <= api.Stats+1; kind++ {
		if may := kind != api.Bad && kind <= api.Stats; (kinds[kind] != nil) != may {
			t.Error(kind, may)
		}
	}
	if len(kinds) != 4 {
		t.Error(len(kinds))
	}
}
