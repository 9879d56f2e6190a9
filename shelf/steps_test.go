package shelf_test

import (
	"fmt"
	"math"
	"math/rand/v2"
	"reflect"
	"strings"
	"testing"

	"shelf/api"
	"shelf/shelf"
)

// step: a step, and the answer that it must have.
type step struct {
	op   api.Op
	want api.Answer
}

func (s step) fails(code api.Errno) step {
	s.want = api.Answer{Code: code}
	return s
}

func put(key, body string, version int) step {
	return step{api.Op{Kind: api.Put, Key: key, Body: body}, api.Answer{Version: version}}
}

func get(key, body string, version int) step {
	return step{api.Op{Kind: api.Get, Key: key}, api.Answer{Version: version, Body: body}}
}

func getv(key string, n int, body string) step {
	return step{api.Op{Kind: api.GetV, Key: key, N: n}, api.Answer{Body: body}}
}

func drop(key string, version int) step {
	return step{api.Op{Kind: api.Drop, Key: key}, api.Answer{Version: version}}
}

func dropv(key string, n int) step {
	return step{api.Op{Kind: api.DropV, Key: key, N: n}, api.Answer{}}
}

// page: a listing whose first page has these items; if more, there is a second one.
func page(kind int, prefix, delim, after string, n int, more bool, items ...api.Item) step {
	s := step{api.Op{Kind: kind, Key: prefix, Delim: delim, After: after, N: n}, api.Answer{Items: items}}
	if more {
		s.want.Token = someToken
	}
	return s
}

// next: a NEXT by a step ahead; the page has these items; if more, there is another one behind it.
func next(from int, more bool, items ...api.Item) step {
	s := page(api.Next, "", "", "", 0, more, items...)
	s.op.From = from
	return s
}

// nextBy: a NEXT by its Body.
func nextBy(token string, more bool, items ...api.Item) step {
	s := next(-1, more, items...)
	s.op.Body = token
	return s
}

func tick(n int) step {
	return step{op: api.Op{Kind: api.Tick, N: n}}
}

// stats: so many versions, and for each open listing the time that is left to it.
func stats(count int, left ...int) step {
	s := step{api.Op{Kind: api.Stats}, api.Answer{Version: count}}
	for _, n := range left {
		s.want.Items = append(s.want.Items, api.Item{Version: n})
	}
	return s
}

// save: a SAVE, of whatever bytes.
func save() step {
	return step{api.Op{Kind: api.Save}, api.Answer{Body: someBytes}}
}

// load: a LOAD by a step ahead.
func load(from int) step {
	return step{op: api.Op{Kind: api.Load, From: from}}
}

// loadBy: a LOAD by its Body.
func loadBy(saved string) step {
	return step{op: api.Op{Kind: api.Load, From: -1, Body: saved}}
}

// someToken stands for any token, someBytes for what any SAVE answers: which ones they are, nothing says.
const (
	someToken = "some token"
	someBytes = "some bytes"
)

func key(text string, version int) api.Item {
	return api.Item{Kind: api.Key, Text: text, Version: version}
}

func common(text string) api.Item {
	return api.Item{Kind: api.Common, Text: text}
}

func version(text string, number int) api.Item {
	return api.Item{Kind: api.Version, Text: text, Version: number}
}

func marker(text string, number int) api.Item {
	return api.Item{Kind: api.Marker, Text: text, Version: number}
}

func same(got, want api.Answer) bool {
	if len(got.Items) == 0 && len(want.Items) == 0 {
		got.Items, want.Items = nil, nil
	}
	return reflect.DeepEqual(got, want)
}

// tellStep quotes and cuts the texts, which may hold any bytes and be very long.
func tellStep(op api.Op) string {
	return fmt.Sprintf("kind %d, key %.60q, body %.120q, delim %.60q, after %.60q, n %d, from %d", op.Kind, op.Key, op.Body, op.Delim, op.After, op.N, op.From)
}

func tell(a api.Answer) string {
	return fmt.Sprintf("code %d, version %d, body %.120q, items %.400q, token %.60q", a.Code, a.Version, a.Body, fmt.Sprint(a.Items), a.Token)
}

// answers runs a script: one answer a step.
func answers(t *testing.T, script []api.Op) []api.Answer {
	t.Helper()
	got := shelf.Run(script)
	if len(got) != len(script) {
		t.Fatalf("%d answers to %d steps", len(got), len(script))
	}
	return got
}

func scriptOf(steps []step) []api.Op {
	var script []api.Op
	for _, s := range steps {
		script = append(script, s.op)
	}
	return script
}

// check runs the steps as one script, holds the answers against those that they must have, and tells them.
func check(t *testing.T, steps ...step) []api.Answer {
	t.Helper()
	all := answers(t, scriptOf(steps))
	for i, got := range all {
		want := steps[i].want
		if want.Token == someToken && got.Token != "" {
			want.Token = got.Token
		}
		if want.Body == someBytes && got.Body != "" {
			want.Body = got.Body
		}
		if !same(got, want) {
			t.Fatalf("step %d (%s): %s, want %s", i, tellStep(steps[i].op), tell(got), tell(steps[i].want))
		}
	}
	return all
}

func sameAnswers(t *testing.T, what string, got, want []api.Answer) {
	t.Helper()
	if len(got) != len(want) {
		t.Fatalf("%s: %d answers, want %d", what, len(got), len(want))
	}
	for i := range got {
		if !same(got[i], want[i]) {
			t.Fatalf("%s: step %d: %s, want %s", what, i, tell(got[i]), tell(want[i]))
		}
	}
}

func edgeNumbers() []int {
	return []int{math.MinInt, math.MinInt + 1, math.MinInt32, -1, 0, 1, 2, 20, 21, 200, 201, 1000, 1001, math.MaxInt32, math.MaxInt - 1, math.MaxInt}
}

func oddTexts() []string {
	return []string{"", "a", "a/b", "/", "\x00", "\xff\xfe", "\u00e4\u20ac", "a\nb", strings.Repeat("k", 40), strings.Repeat("k", 41), strings.Repeat("\xff", 100), strings.Repeat("b", 101), strings.Repeat("long ", 1<<20)}
}

// mixed makes a script of all kinds of steps, known and unknown, most of them of few keys and of numbers that were given,
// with listings of pages that may be and that may not, further pages of those begun lately, and LOADs of what was saved lately.
func mixed(seed uint64, length int) []api.Op {
	r := rand.New(rand.NewPCG(seed, 0))
	texts := []string{"a", "a", "a/", "a/b", "a/b/c", "/", "b", "b", "", "\xff", strings.Repeat("k", 40), strings.Repeat("k", 41), strings.Repeat("b", 101)}
	pick := func() string { return texts[r.IntN(len(texts))] }
	var script []api.Op
	for range length {
		op := api.Op{Kind: r.IntN(15) - 1, Key: pick(), Body: pick(), Delim: pick(), After: pick(), N: r.IntN(length), From: r.IntN(length+2) - 1}
		switch r.IntN(7) {
		case 0, 1:
			op.Kind = 1 + r.IntN(5)
		case 2:
			op.Kind, op.N = api.List+r.IntN(2), r.IntN(22)
		case 3, 4:
			op.Kind, op.N, op.From = api.Next+r.IntN(3), r.IntN(5), len(script)-r.IntN(12)
		case 5:
			op.Kind, op.From = api.Save+r.IntN(2), len(script)-r.IntN(6)
			for r.IntN(9) > 0 && op.From > 0 && (op.From >= len(script) || script[op.From].Kind != api.Save) {
				op.From--
			}
		}
		script = append(script, op)
	}
	return script
}
