package listing

import (
	"slices"
	"testing"

	"shelf/api"
	"shelf/store"
)

func kept(keys ...string) *store.Store {
	s := &store.Store{}
	for _, key := range keys {
		s.Put(key, "")
	}
	return s
}

func read(q Query, state store.State) []api.Item {
	var all []api.Item
	for item := range q.items(state) {
		all = append(all, item)
	}
	return all
}

func sameItems(t *testing.T, what string, got, want []api.Item) {
	t.Helper()
	if !slices.Equal(got, want) {
		t.Errorf("%s: %q, want %q", what, texts(got), texts(want))
	}
}

func texts(items []api.Item) []string {
	var l []string
	for _, item := range items {
		l = append(l, item.Text)
	}
	return l
}

func TestItemsOfAStateStay(t *testing.T) {
	s := kept("a", "b/c", "b/d", "e")
	s.Drop("a")
	queries := []Query{{}, {Versions: true}, {Delim: "/"}, {Versions: true, Delim: "/", After: "a"}, {Prefix: "b", Versions: true}}
	state := s.State()
	var before [][]api.Item
	for _, q := range queries {
		before = append(before, read(q, state))
	}
	s.DropVersion("a", 1)
	s.Put("a", "x")
	s.Drop("b/c")
	s.DropVersion("b/d", 3)
	s.Put("z", "x")
	for i, q := range queries {
		sameItems(t, "the items behind changes", read(q, state), before[i])
	}
}

func TestMoreItemsThanTheChannelHasRoom(t *testing.T) {
	var s store.Store
	for range api.MaxVersions {
		s.Put("a", "")
	}
	all := read(Query{Versions: true}, s.State())
	if len(all) != api.MaxVersions {
		t.Fatalf("%d items of %d versions", len(all), api.MaxVersions)
	}
	for i, item := range all {
		if item.Version != api.MaxVersions-i {
			t.Fatalf("item %d: version %d", i, item.Version)
		}
	}
}

func TestPages(t *testing.T) {
	s := kept("a", "b", "c", "d", "e")
	for _, c := range []struct {
		size, page int
		want       []string
		more       bool
	}{
		{2, 1, []string{"a", "b"}, true}, {2, 2, []string{"c", "d"}, true}, {2, 3, []string{"e"}, false},
		{1, 4, []string{"d"}, true}, {1, 5, []string{"e"}, false}, {5, 1, []string{"a", "b", "c", "d", "e"}, false}, {4, 2, []string{"e"}, false},
	} {
		got := listing{number: 1, state: s.State(), size: c.size}.page(c.page)
		if !slices.Equal(texts(got.Items), c.want) || (got.Token != "") != c.more {
			t.Errorf("page %d of pages of %d: %q, token %q, want %q, %t", c.page, c.size, texts(got.Items), got.Token, c.want, c.more)
		}
	}
}

func TestOpenListingKeepsItsRoot(t *testing.T) {
	s := kept("a", "b", "c", "d")
	var l Listings
	l.Begin(s.State(), Query{}, 2)
	s.Drop("c")
	s.Put("bb", "")
	if got := l.open[0].page(2); !slices.Equal(texts(got.Items), []string{"c", "d"}) {
		t.Errorf("the second page, behind changes: %q", texts(got.Items))
	}
}

func left(l *Listings) []int {
	var units []int
	for _, item := range l.Leases() {
		units = append(units, item.Version)
	}
	return units
}

func sameLeases(t *testing.T, what string, l *Listings, want ...int) {
	t.Helper()
	if got := left(l); !slices.Equal(got, want) {
		t.Errorf("%s: %d units are left, want %d", what, got, want)
	}
}

func TestNextPages(t *testing.T) {
	s := kept("a", "b", "c", "d", "e")
	var l Listings
	page, _ := l.Begin(s.State(), Query{}, 2)
	for _, want := range [][]string{{"c", "d"}, {"e"}} {
		s.Drop(want[0])
		l.Pass(api.Lease - 1)
		again, _ := l.Next(page.Token)
		next, code := l.Next(page.Token)
		if code != api.OK || !slices.Equal(texts(next.Items), want) || next.Token != again.Token {
			t.Errorf("code %d, %q, token %q, want %q, token %q", code, texts(next.Items), next.Token, want, again.Token)
		}
		sameLeases(t, "behind a page", &l, api.Lease)
		page = next
	}
	if page.Token != "" {
		t.Errorf("the token %q of no page", page.Token)
	}
}

func TestTokensThatLeadNowhere(t *testing.T) {
	state := kept("a", "b", "c").State()
	var l Listings
	if page, code := l.Next(""); code != api.ErrToken || page.Items != nil || page.Token != "" {
		t.Errorf("no listing was ever begun: %+v, %d", page, code)
	}
	l.Begin(state, Query{}, 3)
	first, _ := l.Begin(state, Query{}, 1)
	for _, token := range []string{"", "1", "1.1", "1.3", "1.4", "2.2", "01.2", "1.02", " 1.2"} {
		if page, code := l.Next(token); code != api.ErrToken || page.Items != nil || page.Token != "" {
			t.Errorf("%q: %+v, %d", token, page, code)
		}
	}
	l.Pass(api.Lease)
	if page, code := l.Next(first.Token); code != api.ErrGone || page.Items != nil || page.Token != "" {
		t.Errorf("a listing that is gone: %+v, %d", page, code)
	}
}

func TestLeases(t *testing.T) {
	state := kept("a", "b").State()
	var l Listings
	sameLeases(t, "none open", &l)
	var tokens []string
	for range api.MaxOpen {
		page, _ := l.Begin(state, Query{}, 1)
		tokens = append(tokens, page.Token)
		l.Pass(2)
	}
	sameLeases(t, "begun", &l, 4, 6, 8)
	l.Next(tokens[0])
	l.Pass(0)
	sameLeases(t, "the first one told again", &l, 10, 6, 8)
	l.Pass(6)
	sameLeases(t, "the second one gone", &l, 4, 2)
	l.Begin(state, Query{}, 1)
	sameLeases(t, "another one begun", &l, 4, 2, 10)
	l.Pass(api.MaxTick)
	sameLeases(t, "all gone", &l)
}

func TestListingsThatEndLetTheirRootsGo(t *testing.T) {
	var l Listings
	for range api.MaxOpen {
		l.Begin(kept("a", "b").State(), Query{}, 1)
		l.Pass(4)
	}
	for _, o := range l.open[len(l.open):cap(l.open)] {
		if o.state != (store.State{}) {
			t.Error("a root is kept of a listing that is gone")
		}
	}
	if len(l.open) != 2 {
		t.Errorf("%d are open", len(l.open))
	}
}

func TestEndAll(t *testing.T) {
	state := kept("a", "b", "c").State()
	var l Listings
	l.EndAll()
	told := map[string]bool{}
	for range 3 {
		for range api.MaxOpen {
			page, code := l.Begin(state, Query{}, 1)
			next, _ := l.Next(page.Token)
			if code != api.OK || told[page.Token] || told[next.Token] {
				t.Fatalf("code %d, tokens %q, %q, told ahead: %v", code, page.Token, next.Token, told)
			}
			told[page.Token], told[next.Token] = true, true
		}
		l.EndAll()
		sameLeases(t, "all ended", &l)
		for token := range told {
			if _, code := l.Next(token); code != api.ErrGone {
				t.Errorf("%q of a listing that is gone: code %d", token, code)
			}
		}
		if cap(l.open) != 0 {
			t.Error("there is room in which roots may be kept")
		}
	}
}

func TestTokensOfAllPagesDiffer(t *testing.T) {
	told := map[string]int{}
	for number := 1; number <= 120; number++ {
		for page := 2; page <= 200; page++ {
			told[listing{number: number}.token(page)]++
		}
	}
	if len(told) != 120*199 {
		t.Errorf("%d tokens for %d pages", len(told), 120*199)
	}
}

func TestRefusedListingsLeaveNothing(t *testing.T) {
	state := kept("a", "b").State()
	var l Listings
	for range api.MaxOpen {
		l.Begin(state, Query{}, 1)
	}
	for _, c := range []struct {
		size int
		code api.Errno
	}{{1, api.ErrMany}, {0, api.ErrMax}, {21, api.ErrMax}} {
		page, code := l.Begin(state, Query{}, c.size)
		if code != c.code || page.Items != nil || page.Token != "" {
			t.Errorf("pages of %d: %q, token %q, code %d, want %d alone", c.size, texts(page.Items), page.Token, code, c.code)
		}
	}
	if len(l.open) != api.MaxOpen || l.begun != api.MaxOpen || len(l.told) != api.MaxOpen {
		t.Errorf("%d are open, %d begun, %d tokens told", len(l.open), l.begun, len(l.told))
	}
}
