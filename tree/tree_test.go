package tree

import (
	"maps"
	"math/rand/v2"
	"slices"
	"strings"
	"testing"
)

// texts of few bytes, the smallest and the greatest among them, so that many share their beginnings.
func text(r *rand.Rand) string {
	b := make([]byte, r.IntN(5))
	for i := range b {
		b[i] = "\x00ab\xff"[r.IntN(4)]
	}
	return string(b)
}

func allTexts() []string {
	all, longest := []string{""}, []string{""}
	for range 4 {
		var longer []string
		for _, s := range longest {
			for _, c := range []string{"\x00", "a", "b", "\xff"} {
				longer = append(longer, s+c)
			}
		}
		all, longest = append(all, longer...), longer
	}
	return all
}

func same(t *testing.T, what string, got Tree[int], want map[string]int) {
	t.Helper()
	for _, key := range allTexts() {
		v, ok := got.Get(key)
		w, there := want[key]
		if v != w || ok != there {
			t.Fatalf("%s: %q: %d, %t, want %d, %t", what, key, v, ok, w, there)
		}
	}
}

func TestStatesStay(t *testing.T) {
	r := rand.New(rand.NewPCG(1, 2))
	var state Tree[int]
	want := map[string]int{}
	var states []Tree[int]
	var wants []map[string]int
	for i := range 1500 {
		key := text(r)
		if r.IntN(2) == 0 {
			state = state.With(key, i)
			want[key] = i
		} else {
			state = state.Without(key)
			delete(want, key)
		}
		states, wants = append(states, state), append(wants, maps.Clone(want))
	}
	for i := range states {
		same(t, "a state, behind all changes", states[i], wants[i])
	}
}

func TestTwoWaysFromOneState(t *testing.T) {
	var start Tree[int]
	for i, key := range []string{"a", "ab", "b", "c"} {
		start = start.With(key, i)
	}
	one, other := start.With("d", 10), start.With("e", 20)
	less := start.Without("b")
	for key, want := range map[string][4]bool{
		"a": {true, true, true, true}, "b": {true, true, true, false}, "c": {true, true, true, true},
		"d": {false, true, false, false}, "e": {false, false, true, false},
	} {
		for i, state := range []Tree[int]{start, one, other, less} {
			if _, ok := state.Get(key); ok != want[i] {
				t.Errorf("state %d: %q: %t, want %t", i, key, ok, want[i])
			}
		}
	}
}

func TestWithoutLeavesNothingBehind(t *testing.T) {
	keys := []string{"", "a", "ab", "abc", "abd", "\xff", strings.Repeat("k", 40)}
	var state Tree[string]
	for _, key := range keys {
		state = state.With(key, key)
	}
	for _, key := range keys {
		state = state.Without(key)
	}
	if state.root != nil {
		t.Errorf("an empty tree has nodes: %+v", state.root)
	}
	state = state.With("ab", "x").With("abcd", "y").Without("abcd")
	if b := state.root.child('a').child('b'); len(b.kids) != 0 {
		t.Errorf("nodes that lead to nothing: %+v", b.kids)
	}
}

func TestWithoutOfNothing(t *testing.T) {
	var empty Tree[int]
	if empty.Without("a").root != nil || empty.Without("").root != nil {
		t.Error("an empty tree without a key is not empty")
	}
	state := empty.With("ab", 1)
	for _, key := range []string{"", "a", "abc", "b"} {
		if state.Without(key) != state {
			t.Errorf("without %q, which is not there: another state", key)
		}
	}
}

func TestKidsAreOrdered(t *testing.T) {
	var state Tree[int]
	r := rand.New(rand.NewPCG(3, 4))
	for _, b := range r.Perm(256) {
		state = state.With(string([]byte{byte(b)}), b)
	}
	var labels []byte
	for _, k := range state.root.kids {
		labels = append(labels, k.label)
	}
	if len(labels) != 256 || !slices.IsSorted(labels) {
		t.Errorf("not in the order of bytes: %v", labels)
	}
}

func TestFromTellsEachKeyInOrder(t *testing.T) {
	r := rand.New(rand.NewPCG(5, 6))
	var state Tree[int]
	kept := map[string]int{}
	for i := range 300 {
		key := text(r)
		state, kept[key] = state.With(key, i), i
		gone := text(r)
		state = state.Without(gone)
		delete(kept, gone)
	}
	for _, prefix := range allTexts() {
		var want, got []string
		for _, key := range slices.Sorted(maps.Keys(kept)) {
			if strings.HasPrefix(key, prefix) {
				want = append(want, key)
			}
		}
		for key, value := range state.From(prefix) {
			got = append(got, key)
			if value != kept[key] {
				t.Errorf("%q: %d, want %d", key, value, kept[key])
			}
		}
		if !slices.Equal(got, want) {
			t.Fatalf("from %q: %q, want %q", prefix, got, want)
		}
	}
}

func TestFromOfNothing(t *testing.T) {
	var empty Tree[int]
	for _, state := range []Tree[int]{empty, empty.With("ab", 1)} {
		for _, prefix := range []string{"abc", "b", "\x00", strings.Repeat("a", 1<<20)} {
			for key := range state.From(prefix) {
				t.Errorf("from %.20q: %q", prefix, key)
			}
		}
	}
	for key := range empty.From("") {
		t.Errorf("of an empty tree: %q", key)
	}
}

func TestFromStopsWhenAsked(t *testing.T) {
	var state Tree[int]
	for _, key := range []string{"a", "ab", "abc", "b", "ba", "c"} {
		state = state.With(key, 0)
	}
	for stop := 1; stop <= 6; stop++ {
		count := 0
		for range state.From("") {
			count++
			if count == stop {
				break
			}
		}
		if count != stop {
			t.Errorf("%d keys, want %d", count, stop)
		}
	}
}

func TestFromGoesThroughTheStateItWasAskedOf(t *testing.T) {
	var state Tree[int]
	state = state.With("a", 1).With("b", 2).With("c", 3)
	var got []string
	for key := range state.From("") {
		got = append(got, key)
		state = state.Without("b").With("d", 4)
	}
	if !slices.Equal(got, []string{"a", "b", "c"}) {
		t.Errorf("keys put and taken away on the way are seen: %q", got)
	}
}
