// Package listing tells the items of a state, page by page.
package listing

import (
	"slices"
	"strconv"

	"shelf/api"
	"shelf/store"
)

// Listings are those of one script that are open. The zero value has none.
type Listings struct {
	open  []listing        // in the order in which they were begun
	begun int              // how many were ever open: no two have the same tokens
	told  map[string]place // of all tokens that were told: those of listings that are gone are known too
}

// listing: its items are not kept, but the root that they come from.
type listing struct {
	number int
	state  store.State
	query  Query
	size   int // how many items a page has
	left   int // units of time until it ends, above 0
}

// place is where a token leads.
type place struct {
	listing, page int
}

// Page is a page of a listing, and the token of the next one, if there is one.
type Page struct {
	Items []api.Item
	Token string
}

// Begin tells the first page of a new listing, which is open if there is a second one.
func (l *Listings) Begin(state store.State, query Query, size int) (Page, api.Errno) {
	if size < 1 || size > api.MaxPage {
		return Page{}, api.ErrMax
	}
	begun := listing{number: l.begun + 1, state: state, query: query, size: size, left: api.Lease}
	page := begun.page(1)
	switch {
	case page.Token == "":
		return page, api.OK
	case len(l.open) >= api.MaxOpen:
		return Page{}, api.ErrMany
	}
	l.open = append(l.open, begun)
	l.begun++
	l.keep(page.Token, place{begun.number, 2})
	return page, api.OK
}

// Next tells the page to which the token leads, and gives its listing a whole lease again.
func (l *Listings) Next(token string) (Page, api.Errno) {
	at, ok := l.told[token]
	if !ok {
		return Page{}, api.ErrToken
	}
	i := slices.IndexFunc(l.open, func(o listing) bool { return o.number == at.listing })
	if i < 0 {
		return Page{}, api.ErrGone
	}
	l.open[i].left = api.Lease
	page := l.open[i].page(at.page)
	if page.Token != "" {
		l.keep(page.Token, place{at.listing, at.page + 1})
	}
	return page, api.OK
}

// Pass lets so many units of time go by. Listings that end are let go, and their roots with them.
func (l *Listings) Pass(units int) {
	for i := range l.open {
		l.open[i].left -= units
	}
	l.open = slices.DeleteFunc(l.open, func(o listing) bool { return o.left <= 0 })
}

// EndAll lets all open listings go. Their tokens stay known, and are not told again.
func (l *Listings) EndAll() { l.open = nil }

// Leases tells an item for each open listing: the units of time that are left to it.
func (l *Listings) Leases() []api.Item {
	var items []api.Item
	for _, o := range l.open {
		items = append(items, api.Item{Version: o.left})
	}
	return items
}

func (l *Listings) keep(token string, at place) {
	if l.told == nil {
		l.told = map[string]place{}
	}
	l.told[token] = at
}

// page tells the page with that number, from 1 on.
func (l listing) page(number int) Page {
	var page Page
	end := number * l.size
	count := 0
	for item := range l.query.items(l.state) {
		count++
		if end-l.size < count && count <= end {
			page.Items = append(page.Items, item)
		}
	}
	if count > end {
		page.Token = l.token(number + 1)
	}
	return page
}

func (l listing) token(page int) string {
	return strconv.Itoa(l.number) + "." + strconv.Itoa(page)
}
