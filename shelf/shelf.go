// Package shelf keeps things with versions, and lists them: see DOC.md.
package shelf

import (
	"shelf/api"
	"shelf/store"
)

// Run answers a script, step by step.
func Run(script []api.Op) []api.Answer {
	var kept store.Store
	answers := make([]api.Answer, 0, len(script))
	for _, op := range script {
		answers = append(answers, answer(&kept, op))
	}
	return answers
}

func answer(kept *store.Store, op api.Op) api.Answer {
	switch op.Kind {
	case api.Put:
		number, code := kept.Put(op.Key, op.Body)
		return api.Answer{Code: code, Version: number}
	case api.Get:
		v, code := kept.Get(op.Key)
		return api.Answer{Code: code, Version: v.Number, Body: v.Body}
	case api.GetV:
		v, code := kept.GetVersion(op.Key, op.N)
		return api.Answer{Code: code, Body: v.Body}
	case api.Drop:
		number, code := kept.Drop(op.Key)
		return api.Answer{Code: code, Version: number}
	case api.DropV:
		return api.Answer{Code: kept.DropVersion(op.Key, op.N)}
	}
	return api.Answer{Code: api.ErrKind}
}
