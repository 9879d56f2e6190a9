package shelf_test

import (
	"cmp"
	"fmt"
	"math"
	"math/rand/v2"
	"slices"
	"strings"
	"testing"

	"shelf/api"
)

// model: the plainest shelf: a list of all versions, in the order in which they were made, and a list of all listings,
// in the order in which they were begun, each with all its items.
type model struct {
	kept
	begun []*begun
	leads []lead  // of each step that was answered
	saved []*kept // of each step that was answered: what it saved, if it is a SAVE
}

type kept struct {
	rows []row
	last int
	time int
}

type begun struct {
	items     []api.Item
	size, end int
}

// lead is what the token of an answer tells, if it has one.
type lead struct {
	of   *begun
	page int // from 0 on
}

type row struct {
	key, body string
	number    int
	marker    bool
}

func (m *model) answer(op api.Op) api.Answer {
	var a api.Answer
	var to lead
	var saved *kept
	switch op.Kind {
	case api.Put, api.Get, api.GetV, api.Drop, api.DropV:
		a = m.ofKey(op)
	case api.List, api.Vers:
		a, to = m.list(op)
	case api.Next:
		a, to = m.next(op)
	case api.Tick:
		a = m.tick(op)
	case api.Stats:
		a = m.stats()
	case api.Save:
		a, saved = api.Answer{Body: someBytes}, m.copy()
	case api.Load:
		a = m.load(op)
	default:
		a = api.Answer{Code: api.ErrKind}
	}
	if to.of != nil {
		a.Token = someToken
	}
	m.leads = append(m.leads, to)
	m.saved = append(m.saved, saved)
	return a
}

func (m *model) ofKey(op api.Op) api.Answer {
	if op.Key == "" || len(op.Key) > 40 {
		return api.Answer{Code: api.ErrKey}
	}
	newest, numbered := -1, -1
	for i, r := range m.rows {
		if r.key == op.Key {
			newest = i
			if r.number == op.N {
				numbered = i
			}
		}
	}
	switch op.Kind {
	case api.Put, api.Drop:
		return m.make(op)
	case api.Get:
		if newest < 0 || m.rows[newest].marker {
			return api.Answer{Code: api.ErrNone}
		}
		return api.Answer{Version: m.rows[newest].number, Body: m.rows[newest].body}
	}
	if numbered < 0 {
		return api.Answer{Code: api.ErrNone}
	}
	if op.Kind == api.DropV {
		m.rows = slices.Delete(m.rows, numbered, numbered+1)
		return api.Answer{}
	}
	if m.rows[numbered].marker {
		return api.Answer{Code: api.ErrMarker}
	}
	return api.Answer{Body: m.rows[numbered].body}
}

func (m *model) make(op api.Op) api.Answer {
	if op.Kind == api.Put && len(op.Body) > 100 {
		return api.Answer{Code: api.ErrBody}
	}
	if len(m.rows) >= 200 {
		return api.Answer{Code: api.ErrFull}
	}
	m.last++
	r := row{key: op.Key, number: m.last, marker: op.Kind == api.Drop}
	if op.Kind == api.Put {
		r.body = op.Body
	}
	m.rows = append(m.rows, r)
	return api.Answer{Version: m.last}
}

func (m *model) list(op api.Op) (api.Answer, lead) {
	if op.N < 1 || op.N > 20 {
		return api.Answer{Code: api.ErrMax}, lead{}
	}
	b := &begun{items: m.items(op), size: op.N}
	if len(b.items) > op.N {
		if len(m.stats().Items) == 3 {
			return api.Answer{Code: api.ErrMany}, lead{}
		}
		m.begun = append(m.begun, b)
	}
	return m.page(b, 0)
}

// next asks the Body nothing: it is no token where the model is asked.
func (m *model) next(op api.Op) (api.Answer, lead) {
	var at lead
	if op.From >= 0 && op.From < len(m.leads) {
		at = m.leads[op.From]
	}
	switch {
	case at.of == nil:
		return api.Answer{Code: api.ErrToken}, lead{}
	case m.time >= at.of.end:
		return api.Answer{Code: api.ErrGone}, lead{}
	}
	return m.page(at.of, at.page)
}

func (m *model) page(b *begun, number int) (api.Answer, lead) {
	b.end = m.time + 10
	rest := b.items[number*b.size:]
	if len(rest) <= b.size {
		return api.Answer{Items: rest}, lead{}
	}
	return api.Answer{Items: rest[:b.size]}, lead{b, number + 1}
}

func (m *model) tick(op api.Op) api.Answer {
	if op.N < 0 || op.N > 1000 {
		return api.Answer{Code: api.ErrTime}
	}
	m.time += op.N
	return api.Answer{}
}

func (m *model) stats() api.Answer {
	a := api.Answer{Version: len(m.rows)}
	for _, b := range m.begun {
		if m.time < b.end {
			a.Items = append(a.Items, api.Item{Version: b.end - m.time})
		}
	}
	return a
}

func (k kept) copy() *kept {
	k.rows = slices.Clone(k.rows)
	return &k
}

// load asks the Body nothing: it is nothing that was saved where the model is asked.
func (m *model) load(op api.Op) api.Answer {
	if op.From < 0 || op.From >= len(m.saved) || m.saved[op.From] == nil {
		return api.Answer{Code: api.ErrBytes}
	}
	m.kept = *m.saved[op.From].copy()
	for _, b := range m.begun {
		b.end = math.MinInt
	}
	return api.Answer{}
}

// items makes an item of each row that is asked for, drops those that are there already, and sorts what is left.
func (m *model) items(op api.Op) []api.Item {
	var items []api.Item
	for i, r := range m.rows {
		older := slices.ContainsFunc(m.rows[i+1:], func(later row) bool { return later.key == r.key })
		if !strings.HasPrefix(r.key, op.Key) || slices.Compare([]byte(r.key), []byte(op.After)) <= 0 {
			continue
		}
		if op.Kind == api.List && (older || r.marker) {
			continue
		}
		if item := r.item(op); !slices.Contains(items, item) {
			items = append(items, item)
		}
	}
	slices.SortFunc(items, func(a, b api.Item) int {
		return cmp.Or(slices.Compare([]byte(a.Text), []byte(b.Text)), cmp.Compare(b.Version, a.Version))
	})
	return items
}

func (r row) item(op api.Op) api.Item {
	for start := len(op.Key); op.Delim != "" && start+len(op.Delim) <= len(r.key); start++ {
		if r.key[start:start+len(op.Delim)] == op.Delim {
			return common(r.key[:start+len(op.Delim)])
		}
	}
	switch {
	case op.Kind == api.List:
		return key(r.key, r.number)
	case r.marker:
		return marker(r.key, r.number)
	}
	return version(r.key, r.number)
}

// lively makes steps that mostly find something: kinds are picked from the list, numbers from those given lately.
func lively(r *rand.Rand, kinds []int, m *model) api.Op {
	keys := []string{"a", "a", "a", "ab", "abc", "b", "\x00", "\xff", "", strings.Repeat("k", 40), strings.Repeat("k", 41)}
	bodies := []string{"", "x", "y", strings.Repeat("b", 100), strings.Repeat("b", 101)}
	op := api.Op{Kind: kinds[r.IntN(len(kinds))], Key: keys[r.IntN(len(keys))], Body: bodies[r.IntN(len(bodies))], N: r.IntN(m.last + 2)}
	if len(m.rows) > 0 && r.IntN(3) > 0 {
		found := m.rows[r.IntN(len(m.rows))]
		op.Key, op.N = found.key, found.number
	}
	return op
}

func TestP3AgainstModel(t *testing.T) {
	for seed := range uint64(200) {
		r := rand.New(rand.NewPCG(seed, 7))
		kinds := []int{0, api.Put, api.Put, api.Put, api.Get, api.GetV, api.Drop, api.DropV, 13}
		if seed%2 == 0 {
			kinds = append(kinds, api.DropV, api.DropV, api.Get, api.Get)
		}
		var m model
		var steps []step
		for range 700 {
			op := lively(r, kinds, &m)
			steps = append(steps, step{op, m.answer(op)})
		}
		check(t, steps...)
	}
}

// fewBytes makes texts of few bytes, so that they begin alike and hold each other.
func fewBytes(r *rand.Rand, longest int) string {
	b := make([]byte, r.IntN(longest+1))
	for i := range b {
		b[i] = "//a\xff"[r.IntN(4)]
	}
	return string(b)
}

// query makes a listing: of short prefixes and delimiters, and of pages of which few end ahead of the items.
func query(r *rand.Rand) api.Op {
	op := api.Op{Kind: api.List + r.IntN(2), Key: fewBytes(r, 2), Delim: fewBytes(r, 2), N: 20}
	if r.IntN(2) == 0 {
		op.After = fewBytes(r, 5)
	}
	if r.IntN(3) == 0 {
		op.N = r.IntN(22)
	}
	return op
}

func TestP4AgainstModel(t *testing.T) {
	for seed := range uint64(1500) {
		r := rand.New(rand.NewPCG(seed, 11))
		var m model
		var steps []step
		for range 80 {
			op := query(r)
			if r.IntN(2) == 0 {
				op = lively(r, []int{api.Put, api.Put, api.Drop, api.DropV, api.DropV}, &m)
				if r.IntN(2) == 0 {
					op.Key = fewBytes(r, 5)
				}
			}
			steps = append(steps, step{op, m.answer(op)})
		}
		check(t, steps...)
	}
}

// paging makes steps that mostly find open listings: pages of few items, NEXT by late steps, little time between.
func paging(r *rand.Rand, m *model) api.Op {
	wide := api.Op{From: len(m.leads) - r.IntN(25), Body: "no token", N: r.IntN(5)}
	switch r.IntN(10) {
	case 0, 1, 2:
		op := lively(r, []int{api.Put, api.Put, api.Put, api.Drop, api.DropV}, m)
		if r.IntN(2) == 0 {
			op.Key = fewBytes(r, 3)
		}
		return op
	case 3, 4:
		op := query(r)
		op.Key, op.N = fewBytes(r, 1), 1+r.IntN(4)
		return op
	case 5, 6, 7:
		wide.Kind = api.Next
		// Down from there to a step whose answer has a token.
		for r.IntN(20) > 0 && wide.From > 0 && (wide.From >= len(m.leads) || m.leads[wide.From].of == nil) {
			wide.From--
		}
	case 8:
		wide.Kind = api.Tick
		if r.IntN(8) == 0 {
			wide.N = edgeNumbers()[r.IntN(len(edgeNumbers()))]
		}
	case 9:
		wide.Kind = api.Stats
	}
	return wide
}

// sameTokens: one token for each page that is led to, and no token for two.
func sameTokens(t *testing.T, got []api.Answer, leads []lead) {
	t.Helper()
	tokens, places := map[lead]string{}, map[string]lead{}
	for i, a := range got {
		to := leads[i]
		if to.of == nil {
			continue
		}
		if text, ok := tokens[to]; ok && text != a.Token {
			t.Fatalf("step %d: %q, and %q ahead of it, for one page", i, a.Token, text)
		}
		if place, ok := places[a.Token]; ok && place != to {
			t.Fatalf("step %d: %q for two pages", i, a.Token)
		}
		tokens[to], places[a.Token] = a.Token, to
	}
}

// byBody makes each NEXT name its token by its Body; those that name none get one that is told later, if there is one.
// Likewise each LOAD names its bytes, if it has some.
func byBody(steps []step, got []api.Answer) []step {
	steps = slices.Clone(steps)
	told := func(i int) string {
		if i < 0 || i >= len(got) {
			return ""
		}
		return got[i].Token
	}
	for i := range steps {
		op := &steps[i].op
		switch {
		case op.Kind == api.Load && 0 <= op.From && op.From < i && steps[op.From].op.Kind == api.Save:
			op.From, op.Body = i+i%2, got[op.From].Body
		case op.Kind != api.Next:
		case op.From < i && told(op.From) != "":
			op.From, op.Body = i+i%2, told(op.From)
		default:
			op.Body = firstToldBehind(got, i)
		}
	}
	return steps
}

func firstToldBehind(got []api.Answer, i int) string {
	for j := len(got) - 1; j >= i; j-- {
		first := slices.IndexFunc(got, func(a api.Answer) bool { return a.Token == got[j].Token })
		if got[j].Token != "" && first >= i {
			return got[j].Token
		}
	}
	return "no token"
}

func TestP5AgainstModel(t *testing.T) {
	for seed := range uint64(1000) {
		r := rand.New(rand.NewPCG(seed, 13))
		var m model
		var steps []step
		for range 150 {
			op := paging(r, &m)
			steps = append(steps, step{op, m.answer(op)})
		}
		got := check(t, steps...)
		sameTokens(t, got, m.leads)
		sameAnswers(t, "tokens by Body", check(t, byBody(steps, got)...), got)
	}
}

// saving makes steps of which some save, and some load what was saved lately.
func saving(r *rand.Rand, m *model) api.Op {
	op := api.Op{Kind: api.Load, From: len(m.saved) - r.IntN(15), Body: "no bytes"}
	switch r.IntN(12) {
	case 0:
		op.Kind = api.Save
	case 1:
		// Down from there to a SAVE.
		for r.IntN(20) > 0 && op.From > 0 && (op.From >= len(m.saved) || m.saved[op.From] == nil) {
			op.From--
		}
	case 2, 3:
		return lively(r, []int{api.Get, api.GetV, api.DropV}, m)
	default:
		return paging(r, m)
	}
	return op
}

// sameBytes: the same for the same versions, number and time, and never the same for others.
func sameBytes(t *testing.T, got []api.Answer, saved []*kept) {
	t.Helper()
	bytes, shelves := map[string]string{}, map[string]string{}
	for i, a := range got {
		if saved[i] == nil {
			continue
		}
		shelf := fmt.Sprintf("%#v", *saved[i])
		if text, ok := bytes[shelf]; ok && text != a.Body {
			t.Fatalf("step %d: %q, and %q ahead of it, for %s", i, a.Body, text, shelf)
		}
		if other, ok := shelves[a.Body]; ok && other != shelf {
			t.Fatalf("step %d: %q for %s and for %s", i, a.Body, shelf, other)
		}
		bytes[shelf], shelves[a.Body] = a.Body, shelf
	}
}

func TestP6AgainstModel(t *testing.T) {
	for seed := range uint64(1000) {
		r := rand.New(rand.NewPCG(seed, 23))
		var m model
		var steps []step
		for range 200 {
			op := saving(r, &m)
			steps = append(steps, step{op, m.answer(op)})
		}
		got := check(t, steps...)
		sameTokens(t, got, m.leads)
		sameBytes(t, got, m.saved)
		sameAnswers(t, "tokens and bytes by Body", check(t, byBody(steps, got)...), got)
	}
}
