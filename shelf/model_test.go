package shelf_test

import (
	"cmp"
	"math/rand/v2"
	"slices"
	"strings"
	"testing"

	"shelf/api"
)

// model: the plainest shelf: a list of all versions, in the order in which they were made.
type model struct {
	rows []row
	last int
	open int
}

type row struct {
	key, body string
	number    int
	marker    bool
}

func (m *model) answer(op api.Op) api.Answer {
	if op.Kind == api.List || op.Kind == api.Vers {
		return m.list(op)
	}
	if op.Kind < api.Put || op.Kind > api.DropV {
		return api.Answer{Code: api.ErrKind}
	}
	if op.Key == "" || len(op.Key) > 40 {
		return api.Answer{Code: api.ErrKey}
	}
	newest, numbered := -1, -1
	for i, r := range m.rows {
		if r.key == op.Key {
			newest = i
			if r.number == op.N {
				numbered = i
			}
		}
	}
	switch op.Kind {
	case api.Put, api.Drop:
		return m.make(op)
	case api.Get:
		if newest < 0 || m.rows[newest].marker {
			return api.Answer{Code: api.ErrNone}
		}
		return api.Answer{Version: m.rows[newest].number, Body: m.rows[newest].body}
	}
	if numbered < 0 {
		return api.Answer{Code: api.ErrNone}
	}
	if op.Kind == api.DropV {
		m.rows = slices.Delete(m.rows, numbered, numbered+1)
		return api.Answer{}
	}
	if m.rows[numbered].marker {
		return api.Answer{Code: api.ErrMarker}
	}
	return api.Answer{Body: m.rows[numbered].body}
}

func (m *model) make(op api.Op) api.Answer {
	if op.Kind == api.Put && len(op.Body) > 100 {
		return api.Answer{Code: api.ErrBody}
	}
	if len(m.rows) >= 200 {
		return api.Answer{Code: api.ErrFull}
	}
	m.last++
	r := row{key: op.Key, number: m.last, marker: op.Kind == api.Drop}
	if op.Kind == api.Put {
		r.body = op.Body
	}
	m.rows = append(m.rows, r)
	return api.Answer{Version: m.last}
}

func (m *model) list(op api.Op) api.Answer {
	if op.N < 1 || op.N > 20 {
		return api.Answer{Code: api.ErrMax}
	}
	items := m.items(op)
	if len(items) <= op.N {
		return api.Answer{Items: items}
	}
	if m.open == 3 {
		return api.Answer{Code: api.ErrMany}
	}
	m.open++
	return api.Answer{Items: items[:op.N], Token: someToken}
}

// items makes an item of each row that is asked for, drops those that are there already, and sorts what is left.
func (m *model) items(op api.Op) []api.Item {
	var items []api.Item
	for i, r := range m.rows {
		older := slices.ContainsFunc(m.rows[i+1:], func(later row) bool { return later.key == r.key })
		if !strings.HasPrefix(r.key, op.Key) || slices.Compare([]byte(r.key), []byte(op.After)) <= 0 {
			continue
		}
		if op.Kind == api.List && (older || r.marker) {
			continue
		}
		if item := r.item(op); !slices.Contains(items, item) {
			items = append(items, item)
		}
	}
	slices.SortFunc(items, func(a, b api.Item) int {
		return cmp.Or(slices.Compare([]byte(a.Text), []byte(b.Text)), cmp.Compare(b.Version, a.Version))
	})
	return items
}

func (r row) item(op api.Op) api.Item {
	for start := len(op.Key); op.Delim != "" && start+len(op.Delim) <= len(r.key); start++ {
		if r.key[start:start+len(op.Delim)] == op.Delim {
			return common(r.key[:start+len(op.Delim)])
		}
	}
	switch {
	case op.Kind == api.List:
		return key(r.key, r.number)
	case r.marker:
		return marker(r.key, r.number)
	}
	return version(r.key, r.number)
}

// lively makes steps that mostly find something: kinds are picked from the list, numbers from those given lately.
func lively(r *rand.Rand, kinds []int, m *model) api.Op {
	keys := []string{"a", "a", "a", "ab", "abc", "b", "\x00", "\xff", "", strings.Repeat("k", 40), strings.Repeat("k", 41)}
	bodies := []string{"", "x", "y", strings.Repeat("b", 100), strings.Repeat("b", 101)}
	op := api.Op{Kind: kinds[r.IntN(len(kinds))], Key: keys[r.IntN(len(keys))], Body: bodies[r.IntN(len(bodies))], N: r.IntN(m.last + 2)}
	if len(m.rows) > 0 && r.IntN(3) > 0 {
		found := m.rows[r.IntN(len(m.rows))]
		op.Key, op.N = found.key, found.number
	}
	return op
}

func TestP3AgainstModel(t *testing.T) {
	for seed := range uint64(200) {
		r := rand.New(rand.NewPCG(seed, 7))
		kinds := []int{0, api.Put, api.Put, api.Put, api.Get, api.GetV, api.Drop, api.DropV, 13}
		if seed%2 == 0 {
			kinds = append(kinds, api.DropV, api.DropV, api.Get, api.Get)
		}
		var m model
		var steps []step
		for range 700 {
			op := lively(r, kinds, &m)
			steps = append(steps, step{op, m.answer(op)})
		}
		check(t, steps...)
	}
}

// fewBytes makes texts of few bytes, so that they begin alike and hold each other.
func fewBytes(r *rand.Rand, longest int) string {
	b := make([]byte, r.IntN(longest+1))
	for i := range b {
		b[i] = "//a\xff"[r.IntN(4)]
	}
	return string(b)
}

// query makes a listing: of short prefixes and delimiters, and of pages of which few end ahead of the items.
func query(r *rand.Rand) api.Op {
	op := api.Op{Kind: api.List + r.IntN(2), Key: fewBytes(r, 2), Delim: fewBytes(r, 2), N: 20}
	if r.IntN(2) == 0 {
		op.After = fewBytes(r, 5)
	}
	if r.IntN(3) == 0 {
		op.N = r.IntN(22)
	}
	return op
}

func TestP4AgainstModel(t *testing.T) {
	for seed := range uint64(1500) {
		r := rand.New(rand.NewPCG(seed, 11))
		var m model
		var steps []step
		for range 80 {
			op := query(r)
			if r.IntN(2) == 0 {
				op = lively(r, []int{api.Put, api.Put, api.Drop, api.DropV, api.DropV}, &m)
				if r.IntN(2) == 0 {
					op.Key = fewBytes(r, 5)
				}
			}
			steps = append(steps, step{op, m.answer(op)})
		}
		check(t, steps...)
	}
}
