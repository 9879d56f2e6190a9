// Package shelf keeps things with versions, and lists them: see DOC.md.
package shelf

import (
	"shelf/api"
	"shelf/listing"
	"shelf/store"
)

// Run answers a script, step by step.
func Run(script []api.Op) []api.Answer {
	var at desk
	answers := make([]api.Answer, 0, len(script))
	for _, op := range script {
		answers = append(answers, at.answer(op))
	}
	return answers
}

// desk: what the steps of one script find and leave.
type desk struct {
	kept     store.Store
	listings listing.Listings
}

func (d *desk) answer(op api.Op) api.Answer {
	switch op.Kind {
	case api.Put:
		number, code := d.kept.Put(op.Key, op.Body)
		return api.Answer{Code: code, Version: number}
	case api.Get:
		v, code := d.kept.Get(op.Key)
		return api.Answer{Code: code, Version: v.Number, Body: v.Body}
	case api.GetV:
		v, code := d.kept.GetVersion(op.Key, op.N)
		return api.Answer{Code: code, Body: v.Body}
	case api.Drop:
		number, code := d.kept.Drop(op.Key)
		return api.Answer{Code: code, Version: number}
	case api.DropV:
		return api.Answer{Code: d.kept.DropVersion(op.Key, op.N)}
	case api.List, api.Vers:
		page, code := d.listings.Begin(d.kept.State(), query(op), op.N)
		return api.Answer{Code: code, Items: page.Items, Token: page.Token}
	}
	return api.Answer{Code: api.ErrKind}
}

func query(op api.Op) listing.Query {
	return listing.Query{Versions: op.Kind == api.Vers, Prefix: op.Key, Delim: op.Delim, After: op.After}
}
