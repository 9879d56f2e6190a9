package shelf_test

import (
	"math/rand/v2"
	"slices"
	"strings"
	"testing"

	"shelf/api"
)

// model: the plainest shelf: a list of all versions, in the order in which they were made.
type model struct {
	rows []row
	last int
}

type row struct {
	key, body string
	number    int
	marker    bool
}

func (m *model) answer(op api.Op) api.Answer {
	if op.Kind < api.Put || op.Kind > api.DropV {
		return api.Answer{Code: api.ErrKind}
	}
	if op.Key == "" || len(op.Key) > 40 {
		return api.Answer{Code: api.ErrKey}
	}
	newest, numbered := -1, -1
	for i, r := range m.rows {
		if r.key == op.Key {
			newest = i
			if r.number == op.N {
				numbered = i
			}
		}
	}
	switch op.Kind {
	case api.Put, api.Drop:
		return m.make(op)
	case api.Get:
		if newest < 0 || m.rows[newest].marker {
			return api.Answer{Code: api.ErrNone}
		}
		return api.Answer{Version: m.rows[newest].number, Body: m.rows[newest].body}
	}
	if numbered < 0 {
		return api.Answer{Code: api.ErrNone}
	}
	if op.Kind == api.DropV {
		m.rows = slices.Delete(m.rows, numbered, numbered+1)
		return api.Answer{}
	}
	if m.rows[numbered].marker {
		return api.Answer{Code: api.ErrMarker}
	}
	return api.Answer{Body: m.rows[numbered].body}
}

func (m *model) make(op api.Op) api.Answer {
	if op.Kind == api.Put && len(op.Body) > 100 {
		return api.Answer{Code: api.ErrBody}
	}
	if len(m.rows) >= 200 {
		return api.Answer{Code: api.ErrFull}
	}
	m.last++
	r := row{key: op.Key, number: m.last, marker: op.Kind == api.Drop}
	if op.Kind == api.Put {
		r.body = op.Body
	}
	m.rows = append(m.rows, r)
	return api.Answer{Version: m.last}
}

// lively makes steps that mostly find something: kinds are picked from the list, numbers from those given lately.
func lively(r *rand.Rand, kinds []int, m *model) api.Op {
	keys := []string{"a", "a", "a", "ab", "abc", "b", "\x00", "\xff", "", strings.Repeat("k", 40), strings.Repeat("k", 41)}
	bodies := []string{"", "x", "y", strings.Repeat("b", 100), strings.Repeat("b", 101)}
	op := api.Op{Kind: kinds[r.IntN(len(kinds))], Key: keys[r.IntN(len(keys))], Body: bodies[r.IntN(len(bodies))], N: r.IntN(m.last + 2)}
	if len(m.rows) > 0 && r.IntN(3) > 0 {
		found := m.rows[r.IntN(len(m.rows))]
		op.Key, op.N = found.key, found.number
	}
	return op
}

func TestP3AgainstModel(t *testing.T) {
	for seed := range uint64(200) {
		r := rand.New(rand.NewPCG(seed, 7))
		kinds := []int{0, api.Put, api.Put, api.Put, api.Get, api.GetV, api.Drop, api.DropV, 13}
		if seed%2 == 0 {
			kinds = append(kinds, api.DropV, api.DropV, api.Get, api.Get)
		}
		var m model
		var steps []step
		for range 700 {
			op := lively(r, kinds, &m)
			steps = append(steps, step{op, m.answer(op)})
		}
		check(t, steps...)
	}
}
