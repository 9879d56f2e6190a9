package shelf_test

import (
	"reflect"
	"slices"
	"strings"
	"sync"
	"testing"
	"unsafe"

	"shelf/api"
	"shelf/shelf"
)

func TestP2FirstStepsAlone(t *testing.T) {
	for seed := range uint64(5) {
		script := mixed(seed, 250)
		whole := answers(t, script)
		for k := range script {
			sameAnswers(t, "the first steps alone", answers(t, script[:k]), whole[:k])
			sameAnswers(t, "the first steps without spare room", answers(t, slices.Clip(slices.Clone(script[:k]))), whole[:k])
		}
	}
}

func TestP2TwoRuns(t *testing.T) {
	for seed := range uint64(20) {
		script := mixed(seed, 300)
		first := answers(t, script)
		answers(t, mixed(seed+1000, 50))
		sameAnswers(t, "a second run", answers(t, script), first)
	}
}

func TestP2RunsAtOnce(t *testing.T) {
	var scripts [][]api.Op
	var alone, atOnce [8][]api.Answer
	for i := range alone {
		scripts = append(scripts, mixed(uint64(i), 300))
		alone[i] = answers(t, scripts[i])
	}
	var group sync.WaitGroup
	for i := range atOnce {
		group.Go(func() { atOnce[i] = shelf.Run(scripts[i]) })
	}
	group.Wait()
	for i := range atOnce {
		sameAnswers(t, "runs at once", atOnce[i], alone[i])
	}
}

func TestP2HandedInStays(t *testing.T) {
	for seed := range uint64(20) {
		room := mixed(seed, 400)
		before := slices.Clone(room)
		answers(t, room[:200])
		if !reflect.DeepEqual(room[:200], before[:200]) {
			t.Error("the script was written into")
		}
		if !reflect.DeepEqual(room[200:], before[200:]) {
			t.Error("the spare room of the script was written into")
		}
	}
}

// scribble writes into a list and its spare room.
func scribble(items []api.Item) {
	items = items[:cap(items)]
	for i := range items {
		items[i] = api.Item{Kind: -1, Text: "scribble", Version: -1}
	}
}

func deepCopy(l []api.Answer) []api.Answer {
	l = slices.Clone(l)
	for i := range l {
		l[i].Items = slices.Clone(l[i].Items)
	}
	return l
}

func TestP2ListsAreNewMemory(t *testing.T) {
	for seed := range uint64(5) {
		script := mixed(seed, 300)
		first, second := answers(t, script), answers(t, script)
		want := deepCopy(first)
		for i := range first {
			scribble(first[i].Items)
			first[i] = api.Answer{}
			sameAnswers(t, "lists of one run", first[i+1:], want[i+1:])
		}
		room := first[:cap(first)]
		for i := range room {
			room[i] = api.Answer{Code: -1}
		}
		sameAnswers(t, "lists of another run", second, want)
		sameAnswers(t, "a run behind", answers(t, script), want)
	}
}

// filled: three listings that stay open and, behind them, whole ones of the same items, further pages, each told twice, and their leases.
func filled() []api.Op {
	var script []api.Op
	for _, k := range []string{"a", "b", "c/d", "c/e", "f"} {
		script = append(script, api.Op{Kind: api.Put, Key: k}, api.Op{Kind: api.Drop, Key: k}, api.Op{Kind: api.Put, Key: k})
	}
	for _, n := range []int{1, 2, 3, 20, 20} {
		script = append(script, api.Op{Kind: api.List, N: n}, api.Op{Kind: api.Vers, N: 20}, api.Op{Kind: api.List, N: 20, Delim: "/"})
	}
	for _, from := range []int{15, 18, 21} {
		further := api.Op{Kind: api.Next, From: from}
		script = append(script, further, further, api.Op{Kind: api.Stats}, api.Op{Kind: api.Stats})
	}
	return script
}

func TestP2ItemsAreNewMemory(t *testing.T) {
	script := filled()
	first, second := answers(t, script), answers(t, script)
	want := deepCopy(first)
	for i := range first {
		if script[i].Kind >= api.List && len(first[i].Items) == 0 {
			t.Fatal("a list without items, in which no shared memory could be seen")
		}
		scribble(first[i].Items)
		sameAnswers(t, "lists of one run", first[i+1:], want[i+1:])
	}
	sameAnswers(t, "lists of another run", second, want)
	sameAnswers(t, "a run behind", answers(t, script), want)
}

func TestP2TextsOfItemsAreNewMemory(t *testing.T) {
	prefix, name := strings.Repeat("p", 20), strings.Repeat("p", 30)
	got := answers(t, []api.Op{{Kind: api.Put, Key: name}, {Kind: api.List, Key: prefix, N: 1}, {Kind: api.Vers, Key: name, N: 1}, {Kind: api.List, Delim: prefix, N: 1}})
	for _, a := range got[1:] {
		text := unsafe.StringData(a.Items[0].Text)
		if text == unsafe.StringData(prefix) || text == unsafe.StringData(name) {
			t.Errorf("%s: the item shares memory with the script", tell(a))
		}
	}
}

func TestP2BodiesAreNotKept(t *testing.T) {
	body := strings.Repeat("body", 10)
	got := answers(t, []api.Op{{Kind: api.Put, Key: "a", Body: body}, {Kind: api.Get, Key: "a"}})
	if got[1].Body != body {
		t.Fatalf("another body: %q", got[1].Body)
	}
	if unsafe.StringData(got[1].Body) == unsafe.StringData(body) {
		t.Error("the answer shares memory with the script")
	}
}

// within tells whether a text lies in the memory of another one.
func within(part, whole string) bool {
	start := uintptr(unsafe.Pointer(unsafe.StringData(part)))
	from := uintptr(unsafe.Pointer(unsafe.StringData(whole)))
	return part != "" && from <= start && start < from+uintptr(len(whole))
}

func TestP2LoadedBytesAreNotKept(t *testing.T) {
	name, body := strings.Repeat("name", 8), strings.Repeat("body", 10)
	first := answers(t, []api.Op{{Kind: api.Put, Key: name, Body: body}, {Kind: api.Save}})
	saved := first[1].Body
	got := answers(t, []api.Op{{Kind: api.Load, From: -1, Body: saved}, {Kind: api.Get, Key: name}, {Kind: api.GetV, Key: name, N: 1}, {Kind: api.List, N: 1}, {Kind: api.Save}})
	if got[1].Body != body || got[2].Body != body || got[3].Items[0].Text != name || got[4].Body != saved {
		t.Fatalf("other answers: %+v", got)
	}
	for i, text := range []string{got[1].Body, got[2].Body, got[3].Items[0].Text, got[4].Body} {
		if within(text, saved) {
			t.Errorf("the answer %d behind the LOAD shares memory with the script", i+1)
		}
	}
}
