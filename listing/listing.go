// Package listing tells the items of a state, page by page.
package listing

import (
	"strconv"

	"shelf/api"
	"shelf/store"
)

// Listings are those of one script that are open. The zero value has none.
type Listings struct {
	open  []listing
	begun int // how many were ever open: no two have the same tokens
}

// listing: its items are not kept, but the root that they come from.
type listing struct {
	number int
	state  store.State
	query  Query
	size   int // how many items a page has
}

// Page is a page of a listing, and the token of the next one, if there is one.
type Page struct {
	Items []api.Item
	Token string
}

// Begin tells the first page of a new listing, which is open if there is a second one.
func (l *Listings) Begin(state store.State, query Query, size int) (Page, api.Errno) {
	if size < 1 || size > api.MaxPage {
		return Page{}, api.ErrMax
	}
	begun := listing{number: l.begun + 1, state: state, query: query, size: size}
	page := begun.page(1)
	if page.Token == "" {
		return page, api.OK
	}
	if len(l.open) >= api.MaxOpen {
		return Page{}, api.ErrMany
	}
	l.open = append(l.open, begun)
	l.begun++
	return page, api.OK
}

// page tells the page with that number, from 1 on.
func (l listing) page(number int) Page {
	var page Page
	end := number * l.size
	count := 0
	for item := range l.query.items(l.state) {
		count++
		if end-l.size < count && count <= end {
			page.Items = append(page.Items, item)
		}
	}
	if count > end {
		page.Token = l.token(number + 1)
	}
	return page
}

func (l listing) token(page int) string {
	return strconv.Itoa(l.number) + "." + strconv.Itoa(page)
}
