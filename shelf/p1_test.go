package shelf_test

import (
	"math"
	"runtime"
	"testing"
	"time"

	"shelf/api"
	"shelf/shelf"
)

func TestP1EmptyScript(t *testing.T) {
	for _, script := range [][]api.Op{nil, {}, make([]api.Op, 0, 5)} {
		if got := shelf.Run(script); len(got) != 0 {
			t.Errorf("answers to no step: %+v", got)
		}
	}
}

func TestP1UnknownKinds(t *testing.T) {
	for _, kind := range []int{0, -1, -2, 13, 14, 256 + api.Put, 1<<32 + api.Put, math.MinInt, math.MaxInt} {
		for _, n := range edgeNumbers() {
			op := api.Op{Kind: kind, Key: "a", Body: "x", Delim: "/", After: "b", N: n, From: n}
			check(t, put("a", "x", 1), step{op: op}.fails(api.ErrKind), get("a", "x", 1), put("a", "y", 2))
		}
	}
}

func TestP1EdgesOfAllSteps(t *testing.T) {
	var script []api.Op
	add := func(op api.Op) {
		script = append(script, api.Op{Kind: api.Put, Key: "a", Body: "x"}, op)
	}
	for kind := -1; kind <= 14; kind++ {
		for _, text := range oddTexts() {
			for _, n := range edgeNumbers() {
				add(api.Op{Kind: kind, Key: "a", N: n, From: n, Body: text})
				add(api.Op{Kind: kind, Key: text, N: 1, From: n, Delim: "/"})
				add(api.Op{Kind: kind, Key: text, Body: text, Delim: text, After: text, N: n, From: -n})
			}
		}
	}
	answers(t, script)
}

func TestP1AnyMixture(t *testing.T) {
	for seed := range uint64(50) {
		answers(t, mixed(seed, 300))
	}
}

func TestP1LongScriptInOrder(t *testing.T) {
	var steps []step
	for n := 1; n <= 50000; n++ {
		steps = append(steps, put("a", "x", n), dropv("a", n))
	}
	check(t, steps...)
}

func TestP1ManySavesAndLoads(t *testing.T) {
	var steps []step
	for n := 1; n <= api.MaxVersions; n++ {
		steps = append(steps, put(longestKey, longestBody, n))
	}
	for range 500 {
		steps = append(steps, save(), dropv(longestKey, 1), load(api.MaxVersions), put("a", "", 0).fails(api.ErrFull), stats(api.MaxVersions))
	}
	check(t, steps...)
}

func TestP1NoGoroutineIsLeft(t *testing.T) {
	before := runtime.NumGoroutine()
	var script []api.Op
	for range api.MaxVersions {
		script = append(script, api.Op{Kind: api.Put, Key: "a"})
	}
	// Far more items than the page has, and listings and pages that are refused.
	for range 10 {
		script = append(script, api.Op{Kind: api.Vers, N: 1}, api.Op{Kind: api.Vers, N: 21}, api.Op{Kind: api.Next, From: api.MaxVersions}, api.Op{Kind: api.Next, From: -1})
	}
	script = append(script, api.Op{Kind: api.Tick, N: api.Lease}, api.Op{Kind: api.Next, From: api.MaxVersions})
	// And listings that a LOAD ends.
	script = append(script, api.Op{Kind: api.Vers, N: 1}, api.Op{Kind: api.Save}, api.Op{Kind: api.Load, From: len(script) + 1}, api.Op{Kind: api.Vers, N: 1})
	answers(t, script)
	// One that has closed its channel may still be on its way out.
	for range 1000 {
		if runtime.NumGoroutine() <= before {
			return
		}
		time.Sleep(time.Millisecond)
	}
	t.Errorf("%d goroutines, %d ahead of the runs", runtime.NumGoroutine(), before)
}
