package listing

import (
	"slices"
	"strings"

	"shelf/api"
	"shelf/store"
)

// Query says which items of a state are asked for.
type Query struct {
	Versions             bool // items of versions, else of keys
	Prefix, Delim, After string
}

// items tells the channel out of which the items of the state come, in their order.
// Read it to its end, or the goroutine that sends them does not end.
func (q Query) items(state store.State) <-chan api.Item {
	// Room for a page: the two need not take turns at every item.
	out := make(chan api.Item, api.MaxPage)
	go func() {
		defer close(out)
		q.send(state, out)
	}()
	return out
}

// send needs no sorting: keys come in their order, and those of one common part directly behind each other,
// for every key that begins with a common part has it.
func (q Query) send(state store.State, out chan<- api.Item) {
	told := ""
	for key, history := range state.From(q.Prefix) {
		if !q.wants(key, history) {
			continue
		}
		common, ok := q.common(key)
		switch {
		case !ok:
			q.sendKey(key, history, out)
		case common != told:
			out <- api.Item{Kind: api.Common, Text: common}
			told = common
		}
	}
}

func (q Query) wants(key string, history store.History) bool {
	return key > q.After && (q.Versions || !history.Newest().Marker)
}

// common tells the common part for which a key that begins with the prefix stands, if it stands for one.
func (q Query) common(key string) (string, bool) {
	if q.Delim == "" {
		return "", false
	}
	behind := len(q.Prefix)
	place := strings.Index(key[behind:], q.Delim)
	if place < 0 {
		return "", false
	}
	return key[:behind+place+len(q.Delim)], true
}

func (q Query) sendKey(key string, history store.History, out chan<- api.Item) {
	if !q.Versions {
		out <- api.Item{Kind: api.Key, Text: key, Version: history.Newest().Number}
		return
	}
	for _, v := range slices.Backward(history) {
		out <- versionItem(key, v)
	}
}

func versionItem(key string, v store.Version) api.Item {
	kind := api.Version
	if v.Marker {
		kind = api.Marker
	}
	return api.Item{Kind: kind, Text: key, Version: v.Number}
}
