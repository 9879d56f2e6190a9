// Package shelf keeps things with versions, and lists them: see DOC.md.
package shelf

import (
	"shelf/api"
	"shelf/listing"
	"shelf/store"
)

// Run answers a script, step by step.
func Run(script []api.Op) []api.Answer {
	at := desk{script: script, answers: make([]api.Answer, 0, len(script))}
	for _, op := range script {
		at.answers = append(at.answers, at.answer(op))
	}
	return at.answers
}

// desk: what the steps of one script find and leave.
type desk struct {
	kept     store.Store
	listings listing.Listings
	script   []api.Op
	answers  []api.Answer // to the steps ahead
}

func (d *desk) answer(op api.Op) api.Answer {
	switch op.Kind {
	case api.Put:
		number, code := d.kept.Put(op.Key, op.Body)
		return api.Answer{Code: code, Version: number}
	case api.Get:
		v, code := d.kept.Get(op.Key)
		return api.Answer{Code: code, Version: v.Number, Body: v.Body}
	case api.GetV:
		v, code := d.kept.GetVersion(op.Key, op.N)
		return api.Answer{Code: code, Body: v.Body}
	case api.Drop:
		number, code := d.kept.Drop(op.Key)
		return api.Answer{Code: code, Version: number}
	case api.DropV:
		return api.Answer{Code: d.kept.DropVersion(op.Key, op.N)}
	case api.List, api.Vers:
		page, code := d.listings.Begin(d.kept.State(), query(op), op.N)
		return api.Answer{Code: code, Items: page.Items, Token: page.Token}
	case api.Next:
		page, code := d.listings.Next(d.token(op))
		return api.Answer{Code: code, Items: page.Items, Token: page.Token}
	case api.Tick:
		return api.Answer{Code: d.tick(op.N)}
	case api.Stats:
		return api.Answer{Version: d.kept.Count(), Items: d.listings.Leases()}
	case api.Save:
		return api.Answer{Body: d.kept.Save()}
	case api.Load:
		return api.Answer{Code: d.load(d.saved(op))}
	}
	return api.Answer{Code: api.ErrKind}
}

func query(op api.Op) listing.Query {
	return listing.Query{Versions: op.Kind == api.Vers, Prefix: op.Key, Delim: op.Delim, After: op.After}
}

// isAhead: whether that is the number of a step that is answered already.
func (d *desk) isAhead(step int) bool { return 0 <= step && step < len(d.answers) }

// token tells the one that a NEXT means.
func (d *desk) token(op api.Op) string {
	if d.isAhead(op.From) && d.answers[op.From].Token != "" {
		return d.answers[op.From].Token
	}
	return op.Body
}

// saved tells the bytes that a LOAD means.
func (d *desk) saved(op api.Op) string {
	if d.isAhead(op.From) && d.script[op.From].Kind == api.Save {
		return d.answers[op.From].Body
	}
	return op.Body
}

func (d *desk) tick(units int) api.Errno {
	if units < 0 || units > api.MaxTick {
		return api.ErrTime
	}
	d.kept.Pass(units)
	d.listings.Pass(units)
	return api.OK
}

func (d *desk) load(saved string) api.Errno {
	kept, code := store.Load(saved)
	if code != api.OK {
		return code
	}
	d.kept = kept
	d.listings.EndAll()
	return api.OK
}
