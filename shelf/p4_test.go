package shelf_test

import (
	"fmt"
	"math"
	"slices"
	"strings"
	"testing"

	"shelf/api"
)

// behind puts steps behind others, in a list of its own.
func behind(earlier []step, s ...step) []step { return append(slices.Clip(earlier), s...) }

func exampleKeys() []step {
	return []step{put("a/b", "", 1), put("a/c", "", 2), put("a/d/e", "", 3), put("b", "", 4)}
}

func TestP4Example2(t *testing.T) {
	check(t, behind(exampleKeys(),
		page(api.List, "", "/", "", 9, false, common("a/"), key("b", 4)),
		page(api.List, "a/", "/", "", 9, false, key("a/b", 1), key("a/c", 2), common("a/d/")),
		page(api.List, "", "/", "a/c", 9, false, common("a/"), key("b", 4)),
		page(api.List, "", "", "", 9, false, key("a/b", 1), key("a/c", 2), key("a/d/e", 3), key("b", 4)))...)
}

func TestP4Example3FirstPage(t *testing.T) {
	check(t, behind(exampleKeys(), page(api.List, "", "", "", 2, true, key("a/b", 1), key("a/c", 2)))...)
}

func TestP4Example4(t *testing.T) {
	check(t, put("a", "x", 1), put("b", "y", 2), put("a", "z", 3), drop("a", 4),
		page(api.Vers, "", "", "", 9, false, marker("a", 4), version("a", 3), version("a", 1), version("b", 2)))
}

func TestP4Example5(t *testing.T) {
	check(t, put("x", "", 1), put("x/", "", 2), put("x/y", "", 3),
		page(api.List, "", "/", "", 9, false, key("x", 1), common("x/")),
		page(api.List, "x/", "/", "", 9, false, key("x/", 2), key("x/y", 3)))
}

func TestP4NoItems(t *testing.T) {
	for _, kind := range []int{api.List, api.Vers} {
		for _, n := range []int{1, 2, api.MaxPage} {
			check(t, page(kind, "", "", "", n, false), page(kind, "a", "/", "b", n, false),
				put("a", "", 1), page(kind, "b", "", "", n, false), page(kind, "", "", "a", n, false), page(kind, "ab", "", "", n, false),
				dropv("a", 1), page(kind, "", "", "", n, false))
		}
	}
	check(t, drop("a", 1), page(api.List, "", "", "", 1, false), page(api.List, "", "a", "", 1, false), page(api.Vers, "", "", "", 1, false, marker("a", 1)))
}

func TestP4Prefixes(t *testing.T) {
	kept := []step{put("b", "", 1), put("ab", "", 2), put("a", "", 3), put("abc", "", 4), put("ac", "", 5), put("\xff\xff", "", 6)}
	for _, c := range []struct {
		prefix string
		want   []api.Item
	}{
		{"", []api.Item{key("a", 3), key("ab", 2), key("abc", 4), key("ac", 5), key("b", 1), key("\xff\xff", 6)}},
		{"a", []api.Item{key("a", 3), key("ab", 2), key("abc", 4), key("ac", 5)}},
		{"ab", []api.Item{key("ab", 2), key("abc", 4)}},
		{"abc", []api.Item{key("abc", 4)}},
		{"b", []api.Item{key("b", 1)}},
		{"\xff", []api.Item{key("\xff\xff", 6)}},
		{"\xff\xff", []api.Item{key("\xff\xff", 6)}},
		{"abcd", nil}, {"c", nil}, {"A", nil}, {"\x00", nil}, {"\xff\xff\xff", nil}, {longKey, nil}, {strings.Repeat("a", 1<<20), nil},
	} {
		var versions []api.Item
		for _, item := range c.want {
			versions = append(versions, version(item.Text, item.Version))
		}
		check(t, behind(kept, page(api.List, c.prefix, "", "", 9, false, c.want...), page(api.Vers, c.prefix, "", "", 9, false, versions...))...)
	}
}

func TestP4After(t *testing.T) {
	kept := []step{put("b", "", 1), put("ab", "", 2), put("a", "", 3), put("ab\x00", "", 4), put("b/c", "", 5)}
	for _, c := range []struct {
		prefix, delim, after string
		want                 []api.Item
	}{
		{"", "", "\x00", []api.Item{key("a", 3), key("ab", 2), key("ab\x00", 4), key("b", 1), key("b/c", 5)}},
		{"", "", "a", []api.Item{key("ab", 2), key("ab\x00", 4), key("b", 1), key("b/c", 5)}},
		{"", "", "aa", []api.Item{key("ab", 2), key("ab\x00", 4), key("b", 1), key("b/c", 5)}},
		{"", "", "ab", []api.Item{key("ab\x00", 4), key("b", 1), key("b/c", 5)}},
		{"", "", "ab\x00", []api.Item{key("b", 1), key("b/c", 5)}},
		{"", "", "b", []api.Item{key("b/c", 5)}},
		{"", "", "b/", []api.Item{key("b/c", 5)}},
		{"", "", "b/c", nil}, {"", "", "\xff", nil}, {"", "", strings.Repeat("c", 1<<20), nil},
		{"", "", strings.Repeat("a", 1<<20), []api.Item{key("ab", 2), key("ab\x00", 4), key("b", 1), key("b/c", 5)}},
		{"b", "", "a", []api.Item{key("b", 1), key("b/c", 5)}},
		{"a", "", "b", nil},
		{"a", "", "a", []api.Item{key("ab", 2), key("ab\x00", 4)}},
		// It is the key that goes behind after: the common part itself need not.
		{"", "/", "b/", []api.Item{common("b/")}},
		{"", "/", "b/b\xff", []api.Item{common("b/")}},
		{"", "/", "b/c", nil},
		{"", "/", "b", []api.Item{common("b/")}},
		{"", "/", "ab\x00", []api.Item{key("b", 1), common("b/")}},
	} {
		check(t, behind(kept, page(api.List, c.prefix, c.delim, c.after, 9, false, c.want...))...)
	}
}

func TestP4AfterOfVersions(t *testing.T) {
	check(t, put("a", "", 1), put("b", "", 2), put("a", "", 3), put("b", "", 4), put("b/c", "", 5),
		page(api.Vers, "", "", "a", 9, false, version("b", 4), version("b", 2), version("b/c", 5)),
		page(api.Vers, "", "", "\x00", 9, false, version("a", 3), version("a", 1), version("b", 4), version("b", 2), version("b/c", 5)),
		page(api.Vers, "", "/", "b", 9, false, common("b/")),
		page(api.Vers, "", "/", "b/a", 9, false, common("b/")),
		page(api.Vers, "", "/", "b/c", 9, false))
}

func TestP4Delimiters(t *testing.T) {
	for _, c := range []struct {
		key, prefix, delim, common string // if the common part is empty, it is the key itself that is told
	}{
		{"a/b/c", "", "/", "a/"}, {"a/b/c", "a/", "/", "a/b/"}, {"a/b/c", "a/b/", "/", ""}, {"a/b/c", "a", "/", "a/"},
		{"a/b/c", "a/b/c", "/", ""}, {"a/b/c", "", "", ""}, {"a/b/c", "", "//", ""}, {"a/b/c", "", "b/c", "a/b/c"},
		{"a/b/c", "", "a/b/c", "a/b/c"}, {"a/b/c", "", "a/b/c/", ""}, {"a/b/c", "", "a", "a"}, {"a/b/c", "a", "a", ""},
		{"/", "", "/", "/"}, {"/", "/", "/", ""}, {"//", "/", "/", "//"}, {"//", "", "/", "/"}, {"///", "/", "//", "///"}, {"///", "", "//", "//"},
		// A delimiter that begins in the prefix does not stand behind it.
		{"a--b", "a-", "--", ""}, {"a---b", "a-", "--", "a---"}, {"a--b", "a", "--", "a--"}, {"a---b", "", "--", "a--"},
		{"aab", "", "ab", "aab"}, {"aaab", "a", "aab", "aaab"}, {"aab", "a", "aab", ""},
		{"a\x00b", "", "\x00", "a\x00"}, {"\xff\xfe", "", "\xfe", "\xff\xfe"}, {"\u20ac", "", "\x82", "\xe2\x82"}, {"a/b", "", longBody, ""},
	} {
		if c.common == "" {
			check(t, put(c.key, "", 1), page(api.List, c.prefix, c.delim, "", 9, false, key(c.key, 1)), page(api.Vers, c.prefix, c.delim, "", 9, false, version(c.key, 1)))
			continue
		}
		check(t, put(c.key, "", 1), page(api.List, c.prefix, c.delim, "", 9, false, common(c.common)), page(api.Vers, c.prefix, c.delim, "", 9, false, common(c.common)))
	}
}

func TestP4CommonPartsOnceAndInTheirPlace(t *testing.T) {
	kept := []step{
		put("x0", "", 1), put("x/b", "", 2), put("x/", "", 3), put("x-", "", 4), put("x", "", 5), put("x/a/c", "", 6), put("x/a", "", 7),
		put("y/z", "", 8), put("x/a/b", "", 9), put("/", "", 10), put("y", "", 11), put("/x", "", 12),
	}
	check(t, behind(kept,
		page(api.List, "", "/", "", 20, false, common("/"), key("x", 5), key("x-", 4), common("x/"), key("x0", 1), key("y", 11), common("y/")),
		page(api.List, "x", "/", "", 20, false, key("x", 5), key("x-", 4), common("x/"), key("x0", 1)),
		page(api.List, "x/", "/", "", 20, false, key("x/", 3), key("x/a", 7), common("x/a/"), key("x/b", 2)),
		page(api.List, "", "/", "x/a", 20, false, common("x/"), key("x0", 1), key("y", 11), common("y/")),
		page(api.List, "", "/", "x/b", 20, false, key("x0", 1), key("y", 11), common("y/")),
		page(api.List, "", "x", "", 20, false, key("/", 10), common("/x"), common("x"), key("y", 11), key("y/z", 8)),
		page(api.Vers, "", "/", "", 20, false, common("/"), version("x", 5), version("x-", 4), common("x/"), version("x0", 1), version("y", 11), common("y/")))...)
}

func TestP4CommonPartsOfMarkers(t *testing.T) {
	check(t, put("c/x", "", 1), put("c/y", "", 2), put("c/z", "", 3), drop("c/y", 4),
		page(api.List, "", "/", "", 9, false, common("c/")), page(api.Vers, "", "/", "", 9, false, common("c/")),
		drop("c/x", 5), drop("c/z", 6), page(api.List, "", "/", "", 9, false), page(api.Vers, "", "/", "", 9, false, common("c/")),
		put("c/y", "", 7), page(api.List, "", "/", "", 9, false, common("c/")), page(api.List, "", "/", "c/y", 9, false),
		page(api.Vers, "", "/", "c/y", 9, false, common("c/")))
}

func TestP4KeysThatAreThere(t *testing.T) {
	check(t, put("a", "1", 1), put("a", "2", 2), page(api.List, "", "", "", 9, false, key("a", 2)),
		drop("a", 3), page(api.List, "", "", "", 9, false), dropv("a", 3), page(api.List, "", "", "", 9, false, key("a", 2)),
		dropv("a", 2), page(api.List, "", "", "", 9, false, key("a", 1)), drop("b", 4), put("b", "", 5), drop("c", 6),
		page(api.List, "", "", "", 9, false, key("a", 1), key("b", 5)), dropv("b", 5), dropv("a", 1), page(api.List, "", "", "", 9, false))
}

func TestP4VersionsNewestFirst(t *testing.T) {
	check(t, put("b", "", 1), drop("a", 2), put("b", "", 3), put("a", "", 4), drop("b", 5), drop("a", 6), put("ab", "", 7), put("b", "", 8),
		page(api.Vers, "", "", "", 20, false, marker("a", 6), version("a", 4), marker("a", 2), version("ab", 7),
			version("b", 8), marker("b", 5), version("b", 3), version("b", 1)),
		dropv("b", 3), dropv("a", 6), dropv("b", 8), dropv("ab", 7),
		page(api.Vers, "", "", "", 20, false, version("a", 4), marker("a", 2), marker("b", 5), version("b", 1)),
		page(api.Vers, "b", "", "", 20, false, marker("b", 5), version("b", 1)))
}

func TestP4VersionNumbersOfMoreThanOneDigit(t *testing.T) {
	var steps []step
	var want []api.Item
	for n := 1; n <= 12; n++ {
		steps = append(steps, put("a", "", n))
		want = append(want, version("a", 13-n))
	}
	check(t, behind(steps, page(api.Vers, "", "", "", 20, false, want...), page(api.Vers, "", "", "", 4, true, want[:4]...))...)
}

func TestP4PageLengths(t *testing.T) {
	wrong := []int{0, -1, -20, api.MaxPage + 1, 1<<32 + 1, math.MinInt, math.MinInt32, math.MaxInt, math.MaxInt32}
	for _, kind := range []int{api.List, api.Vers} {
		for _, n := range wrong {
			bad := page(kind, "", "", "", n, false).fails(api.ErrMax)
			check(t, bad, put("a", "", 1), bad, put("b", "", 2), page(kind, longKey, "/", "\xff", n, false).fails(api.ErrMax), put("c", "", 3))
		}
	}
}

// many makes so many keys, each of one version, and tells their items as LIST and VERS do.
func many(count int) (steps []step, keys, versions []api.Item) {
	for i := range count {
		name := fmt.Sprintf("k%03d", i)
		steps = append(steps, put(name, "", i+1))
		keys = append(keys, key(name, i+1))
		versions = append(versions, version(name, i+1))
	}
	return steps, keys, versions
}

func TestP4PagesThatEndJustAtTheirLength(t *testing.T) {
	for count := 0; count <= 2*api.MaxPage+1; count++ {
		steps, keys, versions := many(count)
		for n := 1; n <= api.MaxPage; n++ {
			told := min(n, count)
			check(t, behind(steps,
				page(api.List, "", "", "", n, count > n, keys[:told]...), page(api.Vers, "", "", "", n, count > n, versions[:told]...))...)
		}
	}
}

func TestP4PagesWithinOneKey(t *testing.T) {
	kept := []step{put("a", "", 1), put("a", "", 2), put("b", "", 3), drop("a", 4)}
	for n, more := range map[int]bool{1: true, 2: true, 3: true, 4: false, 5: false} {
		all := []api.Item{marker("a", 4), version("a", 2), version("a", 1), version("b", 3)}
		check(t, behind(kept, page(api.Vers, "", "", "", n, more, all[:min(n, 4)]...), page(api.Vers, "a", "", "", 3, false, all[:3]...))...)
	}
}

// A common part is one item of a page, and what is not told takes no place in it.
func TestP4PagesOfCommonParts(t *testing.T) {
	kept := []step{put("a/1", "", 1), put("a/2", "", 2), put("b", "", 3), put("b", "", 4), put("c/1", "", 5), put("c/2", "", 6), drop("d", 7)}
	check(t, behind(kept,
		page(api.List, "", "/", "", 3, false, common("a/"), key("b", 4), common("c/")),
		page(api.List, "", "/", "", 2, true, common("a/"), key("b", 4)),
		page(api.List, "", "/", "", 1, true, common("a/")),
		page(api.List, "a/", "/", "", 2, false, key("a/1", 1), key("a/2", 2)),
		page(api.List, "", "/", "c/1", 1, false, common("c/")),
		page(api.Vers, "", "/", "", 5, false, common("a/"), version("b", 4), version("b", 3), common("c/"), marker("d", 7)),
		page(api.Vers, "", "/", "", 4, true, common("a/"), version("b", 4), version("b", 3), common("c/")))...)
}

func TestP4FourthOpenListing(t *testing.T) {
	steps, keys, versions := many(5)
	listed := []step{
		page(api.List, "", "", "", 1, true, keys[0]), page(api.Vers, "", "", "", 4, true, versions[:4]...), page(api.List, "k", "0", "", 1, false, common("k0")),
		page(api.List, "", "", "k000", 2, true, keys[1], keys[2]),
		page(api.List, "", "", "", 1, false).fails(api.ErrMany), page(api.Vers, "", "", "", 4, false).fails(api.ErrMany), page(api.List, "", "", "k002", 1, false).fails(api.ErrMany),
		// One page is all that these have: they are told, and never open.
		page(api.List, "", "", "", 5, false, keys...), page(api.Vers, "", "", "k003", 1, false, versions[4]), page(api.List, "no", "", "", 1, false),
		page(api.List, "", "", "", 0, false).fails(api.ErrMax), page(api.Vers, "", "", "", 21, false).fails(api.ErrMax),
		page(api.List, "", "", "", 4, false).fails(api.ErrMany), put("l", "", 6), page(api.List, "", "", "", 5, false).fails(api.ErrMany),
		page(api.List, "", "", "", 6, false, append(slices.Clone(keys), key("l", 6))...),
	}
	check(t, behind(steps, listed...)...)
}

func TestP4WhatIsNotOpenDoesNotCount(t *testing.T) {
	steps, keys, _ := many(2)
	for range 10 {
		steps = append(steps,
			page(api.List, "", "", "", 2, false, keys...), page(api.List, "", "", "", 0, false).fails(api.ErrMax), page(api.Vers, "no", "", "", 1, false))
	}
	more := page(api.List, "", "", "", 1, true, keys[0])
	check(t, behind(steps, more, more, more, more.fails(api.ErrMany))...)
}

func TestP4TokensDiffer(t *testing.T) {
	steps, _, _ := many(9)
	script := scriptOf(steps)
	same := api.Op{Kind: api.List, N: 1}
	told := map[string]int{}
	for _, a := range answers(t, append(script, same, same, api.Op{Kind: api.Vers, N: 1}, same, api.Op{Kind: api.Vers, N: 20})) {
		if a.Token != "" {
			told[a.Token]++
		}
	}
	if len(told) != 3 {
		t.Errorf("the tokens of three listings: %v", told)
	}
}

func TestP4FieldsThatAreNotNamed(t *testing.T) {
	for _, n := range edgeNumbers() {
		for _, text := range oddTexts() {
			s := page(api.List, "a", "/", "a", 1, true, common("a/"))
			v := page(api.Vers, "", "", "a", 5, false, version("a/b", 2), version("ab", 3))
			s.op.Body, s.op.From, v.op.Body, v.op.From = text, n, text, n
			check(t, put("a", "x", 1), put("a/b", "x", 2), put("ab", "x", 3), s, v)
		}
	}
}

func TestP4ListingsChangeNothing(t *testing.T) {
	listed := []step{
		page(api.List, "", "/", "", 1, true, common("a/")), page(api.Vers, "", "", "", 1, true, version("a/b", 1)), page(api.List, "", "", "", 1, true, key("a/b", 1)),
		page(api.List, "", "", "", 1, false).fails(api.ErrMany), page(api.List, "", "", "", 0, false).fails(api.ErrMax),
	}
	steps := behind([]step{put("a/b", "x", 1), put("b", "y", 2), drop("m", 3)}, listed...)
	steps = behind(steps, get("a/b", "x", 1), getv("m", 3, "").fails(api.ErrMarker), get("a/", "", 0).fails(api.ErrNone), dropv("b", 2))
	for n := 4; n <= api.MaxVersions+1; n++ {
		steps = append(steps, put("z", "", n))
	}
	check(t, append(steps, put("z", "", 0).fails(api.ErrFull))...)
}

// A full shelf, listed from key to key: each page begins behind the last key of the one ahead of it.
func TestP4FullShelfByAfter(t *testing.T) {
	var steps []step
	var all []api.Item
	for n := 1; n <= api.MaxVersions; n++ {
		name := string([]byte{byte(255 - n)}) + "/" + longestKey[:38]
		steps = append(steps, put(name, "", n))
		all = append(all, key(name, n))
	}
	slices.Reverse(all)
	last := ""
	for rest := all; len(rest) > 0; {
		told := rest[:20]
		rest = rest[20:]
		check(t, behind(steps, page(api.List, "", "", last, 20, len(rest) > 0, told...))...)
		last = told[19].Text
	}
	check(t, behind(steps, page(api.List, "", "", last, 20, false), page(api.List, "", "k", last[:1], 1, false, common(last[:3])))...)
}

func TestP4ManyListings(t *testing.T) {
	steps, keys, _ := many(20)
	for range 20000 {
		steps = append(steps, page(api.List, "", "", "", 20, false, keys...))
	}
	check(t, steps...)
}
