package shelf_test

import (
	"fmt"
	"math"
	"math/rand/v2"
	"slices"
	"strings"
	"testing"

	"shelf/api"
)

// savedBy runs the steps and a SAVE behind them, and tells its bytes.
func savedBy(t *testing.T, steps ...step) string {
	t.Helper()
	got := check(t, behind(steps, save())...)
	return got[len(steps)].Body
}

// saves: a SAVE that must answer these bytes.
func saves(bytes string) step {
	s := save()
	s.want.Body = bytes
	return s
}

func TestP6SaveAndLoad(t *testing.T) {
	check(t,
		put("a", "x", 1), drop("b", 2), save(), put("a", "y", 3), dropv("b", 2), put("c", "", 4),
		load(2), get("a", "x", 1), getv("b", 2, "").fails(api.ErrMarker), get("c", "", 0).fails(api.ErrNone), getv("a", 3, "").fails(api.ErrNone),
		stats(2), page(api.Vers, "", "", "", 9, false, version("a", 1), marker("b", 2)), put("c", "z", 3), get("c", "z", 3),
		load(2), get("c", "", 0).fails(api.ErrNone), drop("a", 3), get("a", "", 0).fails(api.ErrNone))
}

// The same versions, number and time, come to in several ways.
func TestP6SameBytes(t *testing.T) {
	for _, ways := range [][][]step{
		{nil, {tick(0)}, {get("a", "", 0).fails(api.ErrNone)}, {put("", "", 0).fails(api.ErrKey)}, {tick(-1).fails(api.ErrTime), tick(1001).fails(api.ErrTime)}, {save(), load(0)}, {loadBy("x").fails(api.ErrBytes)}},
		{{tick(7)}, {tick(3), tick(4)}, {tick(1), tick(5), tick(0), tick(1)}, {save(), tick(2), load(0), tick(7)}},
		{
			{put("a", "x", 1), put("b", "", 2), dropv("b", 2)},
			{put("a", "x", 1), drop("q", 2), dropv("q", 2)},
			{put("a", "x", 1), put("a", "y", 2), dropv("a", 2)},
			{put("a", "x", 1), page(api.Vers, "", "", "", 1, false, version("a", 1)), drop("a", 2), page(api.Vers, "", "", "", 1, true, marker("a", 2)), dropv("a", 2), stats(1, 10)},
			{put("a", "x", 1), save(), put("c", "z", 2), load(1), drop("a", 2), dropv("a", 2)},
		},
		{
			{put("b", "x", 1), put("a", "y", 2), drop("b", 3), put("ab", "", 4)},
			{put("b", "x", 1), put("a", "y", 2), save(), put("ab", "", 3), load(2), drop("b", 3), put("ab", "", 4), get("a", "y", 2), save()},
			{put("b", "x", 1), put("a", "y", 2), drop("b", 3), save(), dropv("b", 3), load(3), put("ab", "", 4)},
		},
	} {
		first := savedBy(t, ways[0]...)
		for _, way := range ways {
			check(t, behind(way, saves(first), saves(first), load(len(way)), saves(first))...)
		}
	}
}

// Shelves that differ, if only in one number, time, marker, or in where one text ends and the next begins.
func TestP6OtherBytes(t *testing.T) {
	shelves := [][]step{
		nil, {tick(1)}, {tick(2)}, {tick(1000)}, {tick(256)}, {put("a", "", 1), dropv("a", 1)}, {put("a", "", 1), dropv("a", 1), tick(1)},
		{put("a", "", 1)}, {drop("a", 1)}, {put("a", "\x00", 1)}, {put("a", "a", 1)}, {put("aa", "", 1)}, {put("b", "", 1)}, {drop("aa", 1)}, {put("a", "", 1), tick(1)},
		{put("b", "", 1), put("a", "", 2)}, {put("a", "", 1), put("b", "", 2)}, {put("a", "", 1), put("a", "", 2)}, {put("a", "", 1), drop("a", 2)}, {drop("a", 1), put("a", "", 2)},
		{put("a", "", 1), put("a", "", 2), dropv("a", 1)}, {put("a", "", 1), put("a", "", 2), dropv("a", 2)},
		behind(slices.Repeat([]step{tick(1000)}, 65), tick(536)), behind(slices.Repeat([]step{tick(1000)}, 65), tick(537)),
		{put("a", "b", 1), put("c", "", 2)}, {put("a", "", 1), put("bc", "", 2)}, {put("ab", "", 1), put("c", "", 2)}, {put("a", "", 1), put("b", "c", 2)}, {put("a", "bc", 1), drop("a", 2)},
	}
	told := map[string]int{}
	for i, shelf := range shelves {
		saved := savedBy(t, shelf...)
		if at, ok := told[saved]; ok {
			t.Errorf("the same bytes for the shelves %d and %d: %q", at, i, saved)
		}
		told[saved] = i
	}
}

// asked: steps that show all there is: each version of the keys, listings of all kinds, and how it goes on.
func asked(keys ...string) []api.Op {
	var script []api.Op
	all := append([]string{"", "new", longestKey, longKey}, keys...)
	for _, k := range all {
		script = append(script, api.Op{Kind: api.Get, Key: k}, api.Op{Kind: api.GetV, Key: k, N: 1}, api.Op{Kind: api.GetV, Key: k, N: 2}, api.Op{Kind: api.GetV, Key: k, N: api.MaxVersions})
	}
	for _, n := range []int{20, 19, 20} {
		script = append(script, api.Op{Kind: api.Vers, N: n}, api.Op{Kind: api.List, N: n, Delim: "/"}, api.Op{Kind: api.List, N: n, Key: "a"}, api.Op{Kind: api.Tick, N: n - 9})
	}
	script = append(script, api.Op{Kind: api.Stats}, api.Op{Kind: api.Save})
	for _, k := range all {
		script = append(script, api.Op{Kind: api.DropV, Key: k, N: 1}, api.Op{Kind: api.Put, Key: k, Body: "new"}, api.Op{Kind: api.Drop, Key: k}, api.Op{Kind: api.Get, Key: k}, api.Op{Kind: api.DropV, Key: k, N: 3})
	}
	return append(script, api.Op{Kind: api.Vers, N: 20}, api.Op{Kind: api.Stats}, api.Op{Kind: api.Tick, N: 1000}, api.Op{Kind: api.Save})
}

// withoutTokens: of tokens there is told alone whether there is one.
func withoutTokens(l []api.Answer) []api.Answer {
	l = slices.Clone(l)
	for i := range l {
		if l[i].Token != "" {
			l[i].Token = someToken
		}
	}
	return l
}

// sameResumed: going on from the SAVE, and from LOADs of it in the same script and in another one.
func sameResumed(t *testing.T, shelf, other, more []api.Op) {
	t.Helper()
	first := slices.Concat(shelf, []api.Op{{Kind: api.Save}}, more)
	gone := answers(t, first)
	saved, want := gone[len(shelf)].Body, withoutTokens(gone[len(shelf)+1:])
	for what, ahead := range map[string][]api.Op{
		"loaded by From":      slices.Concat(first, []api.Op{{Kind: api.Load, From: len(shelf)}}),
		"loaded by Body":      slices.Concat(first, []api.Op{{Kind: api.Load, From: -1, Body: saved}}),
		"loaded elsewhere":    slices.Concat(other, []api.Op{{Kind: api.Load, From: -1, Body: saved}}),
		"loaded first of all": {{Kind: api.Load, Body: saved}},
	} {
		got := answers(t, slices.Concat(ahead, more))
		if code := got[len(ahead)-1].Code; code != api.OK {
			t.Fatalf("%s: code %d, bytes %.200q", what, code, saved)
		}
		sameAnswers(t, what, withoutTokens(got[len(ahead):]), want)
	}
}

func TestP6Shelves(t *testing.T) {
	many199, _, _ := many(199)
	many200, _, _ := many(200)
	var oneKey, markers, gone, texts []step
	for n := 1; n <= api.MaxVersions; n++ {
		oneKey = append(oneKey, put("a", fmt.Sprint(n), n))
		markers = append(markers, drop(fmt.Sprint("a", n%7), n))
		gone = append(gone, put("a", "x", 2*n-1), drop("b", 2*n), dropv("a", 2*n-1), dropv("b", 2*n))
	}
	for b := range 100 {
		low, high := string([]byte{byte(b)}), string([]byte{byte(255 - b)})
		texts = append(texts, put(low, high+low, 2*b+1), put(high+low, low+high+low, 2*b+2))
	}
	wide := []step{put("a", "", 1), put("a/b", longestBody, 2), put(longestKey, "", 3), put(strings.Repeat("\xff", 40), strings.Repeat("\x00", 100), 4), put(strings.Repeat("\x00", 40), "\x01\x02\x03\x04", 5), put(strings.Repeat("\x00", 39), "", 6), drop(longestKey, 7)}
	for name, shelf := range map[string][]step{
		"no version": nil, "some time": {tick(1000), tick(1000), tick(3)}, "one version": {put("a", "x", 1)}, "one marker": {drop("a", 1)},
		"a marker ahead": {drop("a", 1), put("a", "x", 2)}, "keys whose versions are markers alone": {drop("a", 1), drop("a", 2), drop("b/c", 3), put("d", "", 4)},
		"199 versions": many199, "200 versions": many200, "200 versions of a key": oneKey, "200 versions, each marked": full(), "200 markers": markers,
		"all versions gone": gone, "most versions gone": behind(gone, put("a", "y", 401), tick(9)), "texts of any bytes": texts, "long and short texts": wide,
	} {
		t.Run(name, func(t *testing.T) {
			check(t, shelf...)
			script := scriptOf(shelf)
			for _, other := range [][]step{nil, {put("q", "", 1), tick(5)}, full()} {
				sameResumed(t, script, scriptOf(other), asked("a", "a/b", "b", "m", "k\x01", "k000", "k100", "a1", "\x00", "\xff", "\x64\x9b"))
			}
		})
	}
}

// plain: steps without listings, of few keys.
func plain(r *rand.Rand, length int) []api.Op {
	var m model
	var script []api.Op
	for range length {
		op := lively(r, []int{api.Put, api.Put, api.Put, api.Drop, api.DropV, api.Get, api.GetV, api.Tick, api.Save, 13}, &m)
		m.answer(op)
		script = append(script, op)
	}
	return script
}

// strewn puts listings in between, which no step of the script names.
func strewn(r *rand.Rand, script []api.Op) []api.Op {
	var all []api.Op
	for _, op := range script {
		for r.IntN(3) == 0 {
			q := query(r)
			q.Key = ""
			all = append(all, q, api.Op{Kind: api.Next, From: len(all) - r.IntN(4)})
		}
		all = append(all, op)
	}
	return all
}

// Listings ahead of the SAVE and of the LOAD leave nothing: held against going on without them.
func TestP6ResumedWithoutListings(t *testing.T) {
	for seed := range uint64(400) {
		r := rand.New(rand.NewPCG(seed, 17))
		shelf := plain(r, r.IntN(60))
		listed := strewn(r, shelf)
		more := plain(r, 20)
		for range 6 {
			more = append(more, query(r))
		}
		want := answers(t, slices.Concat(shelf, []api.Op{{Kind: api.Save}}, more))
		saved := answers(t, append(listed, api.Op{Kind: api.Save}))[len(listed)].Body
		other := append(strewn(r, plain(r, r.IntN(60))), api.Op{Kind: api.Load, From: -1, Body: saved})
		got := answers(t, slices.Concat(other, more))
		if got[len(other)-1].Code != api.OK || saved != want[len(shelf)].Body {
			t.Fatalf("code %d, bytes %q, want those without listings, %q", got[len(other)-1].Code, saved, want[len(shelf)].Body)
		}
		sameAnswers(t, "behind the LOAD", withoutTokens(got[len(other):]), withoutTokens(want[len(shelf)+1:]))
	}
}

func TestP6LoadByFrom(t *testing.T) {
	other := savedBy(t, put("other", "", 1), tick(3))
	// The steps 1 and 3 are the SAVEs, and the step 4 is the LOAD.
	steps := []step{put("a", "", 1), save(), put("b", "", 2), save()}
	both := func(from int, body string) step {
		s := load(from)
		s.op.Body = body
		return s
	}
	hasA := []step{get("a", "", 1), get("b", "", 0).fails(api.ErrNone), get("other", "", 0).fails(api.ErrNone), stats(1), put("c", "", 2)}
	hasB := []step{get("a", "", 1), get("b", "", 2), get("other", "", 0).fails(api.ErrNone), stats(2), put("c", "", 3)}
	hasOther := []step{get("a", "", 0).fails(api.ErrNone), get("other", "", 1), stats(1), put("c", "", 2)}
	for _, body := range []string{"", "no bytes", other, longBody} {
		check(t, behind(behind(steps, both(1, body)), hasA...)...)
		check(t, behind(behind(steps, both(3, body)), hasB...)...)
	}
	// No SAVE ahead: another step, the LOAD itself, steps behind it, a SAVE too, and no step at all.
	for _, from := range []int{0, 2, 4, 5, 6, 1000, math.MaxInt, math.MaxInt32, 1<<32 + 1, -1, -2, math.MinInt, math.MinInt + 1, math.MinInt32} {
		check(t, behind(behind(steps, both(from, other), save()), hasOther...)...)
		for _, body := range []string{"", "no bytes"} {
			refused := both(from, body).fails(api.ErrBytes)
			check(t, behind(behind(steps, refused, save()), hasB...)...)
		}
	}
	check(t, load(0).fails(api.ErrBytes), load(0).fails(api.ErrBytes), save(), load(2), load(3).fails(api.ErrBytes), load(4).fails(api.ErrBytes), save(), load(2))
}

// Only a SAVE's Body is asked for by From, even if others are the bytes of a shelf.
func TestP6BodiesThatAreNoSaves(t *testing.T) {
	empty, one := savedBy(t), savedBy(t, put("a", "", 1))
	if len(one) > api.MaxBody {
		t.Fatalf("%d bytes: too long for this test", len(one))
	}
	steps := []step{put("k", one, 1), get("k", one, 1), getv("k", 1, one), loadBy(one), put("k", one, 2), get("k", one, 2)}
	for _, from := range []int{0, 1, 2, 3, 4, 5} {
		refused := load(from).fails(api.ErrBytes)
		check(t, behind(steps, refused, get("k", one, 2), get("a", "", 1))...)
		taken := load(from)
		taken.op.Body = empty
		check(t, behind(steps, taken, stats(0), saves(empty))...)
	}
}

func TestP6LoadByBody(t *testing.T) {
	shelf := []step{put("a", "x", 1), drop("b", 2), put("c", "y.\x00\xff", 3), dropv("a", 1), tick(12)}
	saved := savedBy(t, shelf...)
	loaded := []step{saves(saved), get("a", "", 0).fails(api.ErrNone), getv("b", 2, "").fails(api.ErrMarker), get("c", "y.\x00\xff", 3), stats(2), put("a", "", 4), drop("a", 5)}
	check(t, behind([]step{loadBy(saved)}, loaded...)...)
	check(t, behind([]step{put("q", "", 1), tick(3), loadBy(saved)}, loaded...)...)
	check(t, behind(behind(full(), loadBy(saved)), loaded...)...)
	check(t, behind(behind(shelf, put("d", "", 4), loadBy(saved)), loaded...)...)
	// Bytes that this script saves later were saved by another one.
	check(t, behind([]step{put("q", "", 1), loadBy(saved)}, behind(loaded, loadBy(saved), saves(saved), load(10), saves(saved))...)...)
}

func TestP6NumbersBehindALoad(t *testing.T) {
	check(t,
		put("a", "1", 1), put("a", "2", 2), put("b", "3", 3), dropv("b", 3), dropv("a", 1), save(),
		put("a", "4", 4), put("a", "5", 5), dropv("a", 2), load(5),
		get("a", "2", 2), getv("a", 1, "").fails(api.ErrNone), getv("b", 3, "").fails(api.ErrNone), getv("a", 4, "").fails(api.ErrNone),
		put("b", "new", 4), getv("b", 4, "new"), dropv("b", 4), drop("b", 5), save(), load(18), put("b", "", 6), load(5), put("b", "", 4), load(18), put("b", "", 6))
}

func TestP6GreatNumbers(t *testing.T) {
	steps := []step{put("b", "first", 1)}
	for n := 2; n <= 70000; n++ {
		steps = append(steps, put("a", "", n), dropv("a", n))
	}
	steps = append(steps, drop("b", 70001), put("b", "x", 70002))
	saved := savedBy(t, steps...)
	check(t, loadBy(saved), getv("b", 1, "first"), getv("b", 70001, "").fails(api.ErrMarker), get("b", "x", 70002), stats(3),
		page(api.Vers, "", "", "", 3, false, version("b", 70002), marker("b", 70001), version("b", 1)), saves(saved), put("a", "", 70003))
}

// What goes on behind a SAVE or a LOAD does not reach into what was saved, nor the other way round.
func TestP6SavedStatesStay(t *testing.T) {
	steps := []step{put("a", "1", 1), put("a", "2", 2), put("ab", "3", 3), save()}
	for range 20 {
		at := len(steps)
		steps = append(steps, put("a", "4", 4), dropv("a", 1), drop("ab", 5), dropv("ab", 3), put("abc", "", 6), tick(5), save(),
			load(3), get("a", "2", 2), getv("a", 1, "1"), get("ab", "3", 3), stats(3),
			load(at+6), get("a", "4", 4), getv("a", 1, "").fails(api.ErrNone), getv("ab", 5, "").fails(api.ErrMarker), stats(4), load(3))
	}
	got := check(t, steps...)
	for i, s := range steps {
		if s.op.Kind == api.Save && i > 3 && got[i].Body != got[10].Body {
			t.Fatalf("step %d: %q, ahead of it %q", i, got[i].Body, got[10].Body)
		}
	}
}

func TestP6TheTimeIsSaved(t *testing.T) {
	at := func(units int) string {
		var steps []step
		for ; units > 1000; units -= 1000 {
			steps = append(steps, tick(1000))
		}
		return savedBy(t, append(steps, tick(units))...)
	}
	for _, units := range []int{0, 1, 9, 10, 255, 256, 1000, 1001, 65535, 65536, 300000} {
		saved := at(units)
		check(t, loadBy(saved), saves(saved), tick(7), saves(at(units+7)), loadBy(saved), saves(saved))
		check(t, tick(900), loadBy(saved), tick(100), tick(100), saves(at(units+200)))
	}
	check(t, tick(5), save(), tick(5), saves(at(10)), load(1), saves(at(5)), tick(-1).fails(api.ErrTime), tick(1001).fails(api.ErrTime), saves(at(5)), tick(1), saves(at(6)))
}

func TestP6LoadEndsListings(t *testing.T) {
	steps, keys, versions := many(3)
	first := page(api.List, "", "", "", 1, true, keys[0])
	second := check(t, behind(steps, first)...)[3].Token
	gone := []step{stats(3), next(3, false).fails(api.ErrGone), nextBy(second, false).fails(api.ErrGone), next(5, false).fails(api.ErrGone), next(6, false).fails(api.ErrGone), stats(3)}
	// Begun ahead of the SAVE, and behind it; with a page told, and without.
	steps = behind(steps, first, save(), next(3, true, keys[1]), page(api.Vers, "", "", "", 2, true, versions[:2]...), stats(3, 10, 10), load(4))
	check(t, behind(steps, gone...)...)
	// There is room again for as many as there may be, and they stay where others end.
	check(t, behind(behind(steps, first, first, first, first.fails(api.ErrMany), next(9, true, keys[1]), tick(4), stats(3, 6, 6, 6), load(4)), gone...)...)
	// A LOAD that names the same SAVE again, and one that names nothing.
	check(t, behind(behind(steps, load(4), first, loadBy("").fails(api.ErrBytes), stats(3, 10), load(4)), gone...)...)
}

func TestP6TokensBehindALoad(t *testing.T) {
	steps, keys, _ := many(3)
	steps = append(steps, save())
	first := page(api.List, "", "", "", 1, true, keys[0])
	for range 30 {
		at := len(steps)
		steps = append(steps, first, next(at, true, keys[1]), first, first, load(3), next(at, false).fails(api.ErrGone), next(at+1, false).fails(api.ErrGone), next(at+3, false).fails(api.ErrGone))
	}
	steps = append(steps, next(4, false).fails(api.ErrGone), first, next(len(steps)+1, true, keys[1]), next(4, false).fails(api.ErrGone))
	got := check(t, steps...)
	differ(t, got)
	check(t, behind(steps, nextBy(got[4].Token, false).fails(api.ErrGone), nextBy(got[5].Token, false).fails(api.ErrGone), nextBy("no token", false).fails(api.ErrToken))...)
	// A token that only another script was told is none here, LOAD or not.
	check(t, behind(steps[:4], load(3), nextBy(got[5].Token, false).fails(api.ErrToken))...)
}

// A listing that ended does not open again with a time ahead of its end.
func TestP6EarlierTimeOpensNothing(t *testing.T) {
	steps, keys, _ := many(2)
	first := page(api.List, "", "", "", 1, true, keys[0])
	check(t, behind(steps,
		save(), tick(100), first, load(2), stats(2), next(4, false).fails(api.ErrGone), first, tick(10), next(8, false).fails(api.ErrGone), stats(2),
		load(2), stats(2), next(4, false).fails(api.ErrGone), next(8, false).fails(api.ErrGone), tick(95), next(4, false).fails(api.ErrGone), first, stats(2, 10), next(18, false, keys[1]))...)
	// And a later time takes nothing from the leases of those begun behind it.
	late := savedBy(t, behind(steps, tick(1000))...)
	check(t, behind(steps, first, loadBy(late), first, stats(2, 10), tick(9), stats(2, 1), next(4, false, keys[1]), next(2, false).fails(api.ErrGone))...)
}

func TestP6FieldsThatAreNotNamed(t *testing.T) {
	saved := savedBy(t, put("a", "x", 1))
	for _, n := range edgeNumbers() {
		for _, text := range oddTexts() {
			told, taken := saves(saved), load(1)
			told.op.From, told.op.Body, told.op.N = n, text, n
			taken.op.Body, taken.op.N = text, -n
			for _, op := range []*api.Op{&told.op, &taken.op} {
				op.Key, op.Delim, op.After = text, text, text
			}
			check(t, put("a", "x", 1), told, put("a", "y", 2), taken, get("a", "x", 1), put("a", "y", 2))
		}
	}
}

// foreign hands in bytes that may be refused or taken: either nothing is changed, or a SAVE directly behind answers them.
func foreign(t *testing.T, bytes string) {
	t.Helper()
	ahead := []step{put("q", "x", 1), drop("r", 2), page(api.Vers, "", "", "", 1, true, version("q", 1)), tick(3), save()}
	wild := []api.Op{
		{Kind: api.Stats}, {Kind: api.Vers, N: 20}, {Kind: api.List, N: 20, Delim: "b"}, {Kind: api.Next, From: 2}, {Kind: api.Get, Key: "a"}, {Kind: api.GetV, Key: "a", N: 1}, {Kind: api.Put, Key: "a", Body: "new"},
		{Kind: api.Drop, Key: "b"}, {Kind: api.DropV, Key: "a", N: 1}, {Kind: api.DropV, Key: "a", N: 3}, {Kind: api.Tick, N: 1000}, {Kind: api.Save}, {Kind: api.Load, From: 6}, {Kind: api.Save},
	}
	got := answers(t, append(append(scriptOf(ahead), api.Op{Kind: api.Load, From: -1, Body: bytes}, api.Op{Kind: api.Save}), wild...))
	if got[5].Code != api.OK {
		check(t, behind(ahead, loadBy(bytes).fails(api.ErrBytes), saves(got[4].Body), stats(2, 7), get("q", "x", 1), getv("r", 2, "").fails(api.ErrMarker), next(2, false, marker("r", 2)), put("q", "y", 3))...)
		return
	}
	sameAnswers(t, fmt.Sprintf("LOAD of %.200q and a SAVE", bytes), got[5:7], []api.Answer{{}, {Body: bytes}})
	// What was saved behind it, by whatever steps, is taken elsewhere too.
	for _, saved := range []string{bytes, got[18].Body, got[20].Body} {
		check(t, put("q", "", 1), loadBy(saved), saves(saved))
	}
}

// richly: all parts that there may be, in few bytes.
func richly() []step {
	return []step{put("a", "x", 1), drop("a", 2), put("b", "", 3), put("ab", "yz", 4), dropv("b", 3), put("b", "\x01", 5), drop("c", 6), put("d", "", 7), dropv("d", 7), tick(123)}
}

func TestP6BytesChanged(t *testing.T) {
	for _, saved := range []string{savedBy(t), savedBy(t, richly()...)} {
		for i := range len(saved) {
			for b := range 256 {
				foreign(t, saved[:i]+string([]byte{byte(b)})+saved[i+1:])
			}
		}
	}
}

func TestP6BytesCutAndLonger(t *testing.T) {
	empty, rich := savedBy(t), savedBy(t, richly()...)
	for _, saved := range []string{empty, rich} {
		for i := range len(saved) {
			foreign(t, saved[:i])
			foreign(t, saved[i:])
			foreign(t, saved[:i]+saved[i+1:])
			for _, b := range []string{"\x00", "\x01", "\x02", "\x03", "\x04", "\x05", "a", "\xff", empty, rich} {
				foreign(t, saved[:i]+b+saved[i:])
			}
		}
		for _, b := range []string{"\x00", "\x01", "\x02", "\x03", "\x04", "\x05", ".", "\n", " ", "\xff", strings.Repeat("\x00", 9), empty, rich} {
			foreign(t, saved+b)
		}
	}
}

func TestP6BytesMoved(t *testing.T) {
	rich := savedBy(t, richly()...)
	for from := range len(rich) {
		for to := from + 1; to <= len(rich); to++ {
			piece, rest := rich[from:to], rich[:from]+rich[to:]
			foreign(t, rest)
			foreign(t, piece+rest)
			foreign(t, rest+piece)
			foreign(t, rich[:to]+piece+rich[to:])
		}
	}
}

func TestP6AnyBytes(t *testing.T) {
	r := rand.New(rand.NewPCG(1, 19))
	for _, text := range oddTexts() {
		foreign(t, text)
	}
	for range 3000 {
		text := make([]byte, r.IntN(60))
		for i := range text {
			text[i] = byte(r.IntN(6))
			if r.IntN(4) == 0 {
				text[i] = byte(r.IntN(256))
			}
		}
		foreign(t, string(text))
	}
	foreign(t, strings.Repeat(savedBy(t), 100000))
	foreign(t, strings.Repeat("\x04", 1<<20))
	foreign(t, strings.Repeat("\x00", 1<<20))
}

// Bytes with a changed piece out of a full shelf: keys and bodies of all lengths.
func TestP6BytesOfAFullShelfChanged(t *testing.T) {
	var steps []step
	for n := 1; n <= api.MaxVersions; n++ {
		steps = append(steps, put(longestKey[:1+n%40], longestBody[:n%101], n))
	}
	saved := savedBy(t, steps...)
	foreign(t, saved)
	r := rand.New(rand.NewPCG(2, 19))
	for range 300 {
		i := r.IntN(len(saved))
		foreign(t, saved[:i])
		foreign(t, saved[:i]+string([]byte{byte(r.IntN(256))})+saved[i+1:])
	}
}

func TestP6RefusedTellNothingElse(t *testing.T) {
	for _, bytes := range []string{"", "no bytes", savedBy(t) + savedBy(t)} {
		got := answers(t, []api.Op{{Kind: api.Load, From: -1, Body: bytes, Key: "a", N: 1}})
		if !same(got[0], api.Answer{Code: api.ErrBytes}) {
			t.Errorf("LOAD of %q: %s", bytes, tell(got[0]))
		}
	}
}
