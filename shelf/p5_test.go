package shelf_test

import (
	"fmt"
	"math"
	"slices"
	"strings"
	"testing"

	"shelf/api"
)

func TestP5Example3(t *testing.T) {
	check(t, behind(exampleKeys(),
		page(api.List, "", "", "", 2, true, key("a/b", 1), key("a/c", 2)), drop("a/d/e", 5), put("z", "", 6),
		next(4, false, key("a/d/e", 3), key("b", 4)), next(4, false, key("a/d/e", 3), key("b", 4)),
		tick(10), next(4, false).fails(api.ErrGone), nextBy("no token", false).fails(api.ErrToken))...)
}

// allPages: a listing, whose first page is asked for by the step with the number at, and a NEXT for each further page,
// by the answer that tells the page ahead of it; between stands ahead of each of them.
func allPages(first step, at int, items []api.Item, between ...step) []step {
	n := first.op.N
	first.want = page(first.op.Kind, "", "", "", n, len(items) > n, items[:min(n, len(items))]...).want
	steps := []step{first}
	last := at
	for rest := items[min(n, len(items)):]; len(rest) > 0; rest = rest[min(n, len(rest)):] {
		steps = append(steps, between...)
		steps = append(steps, next(last, len(rest) > n, rest[:min(n, len(rest))]...))
		last = at + len(steps) - 1
	}
	return steps
}

func TestP5AllPagesOfAllLengths(t *testing.T) {
	for _, count := range []int{1, 2, 3, 7, 19, 20, 21, 40, 41, api.MaxVersions} {
		steps, keys, versions := many(count)
		for n := 1; n <= api.MaxPage; n++ {
			check(t, behind(steps, allPages(page(api.List, "", "", "", n, false), count, keys)...)...)
			check(t, behind(steps, allPages(page(api.Vers, "", "", "", n, false), count, versions)...)...)
		}
	}
}

// shaken: keys, markers and common parts; what LIST and VERS, with and without a delimiter, tell of it.
func shaken() (steps []step, lists map[api.Op][]api.Item) {
	steps = []step{
		put("a", "", 1), put("a", "", 2), put("b/1", "", 3), put("b/2", "", 4), drop("c", 5), put("c", "", 6), put("d/1", "", 7), drop("d/1", 8),
		put("e/1", "", 9), put("f", "", 10), drop("f", 11), put("g", "", 12),
	}
	return steps, map[api.Op][]api.Item{
		{Kind: api.List}:                           {key("a", 2), key("b/1", 3), key("b/2", 4), key("c", 6), key("e/1", 9), key("g", 12)},
		{Kind: api.List, Delim: "/"}:               {key("a", 2), common("b/"), key("c", 6), common("e/"), key("g", 12)},
		{Kind: api.List, Delim: "/", After: "b/1"}: {common("b/"), key("c", 6), common("e/"), key("g", 12)},
		{Kind: api.List, Key: "b/"}:                {key("b/1", 3), key("b/2", 4)},
		{Kind: api.Vers}: {version("a", 2), version("a", 1), version("b/1", 3), version("b/2", 4), version("c", 6), marker("c", 5),
			marker("d/1", 8), version("d/1", 7), version("e/1", 9), marker("f", 11), version("f", 10), version("g", 12)},
		{Kind: api.Vers, Delim: "/", After: "a"}: {common("b/"), version("c", 6), marker("c", 5), common("d/"), common("e/"), marker("f", 11), version("f", 10), version("g", 12)},
	}
}

// changes: each kind of change, within what the pages have told and behind it.
func changes(last int) []step {
	return []step{
		put("a", "", last+1), drop("g", last+2), put("b/0", "", last+3), put("b/3", "", last+4), drop("b/1", last+5), put("d/1", "", last+6),
		put("f", "", last+7), drop("e/1", last+8), put("z/z", "", last+9), put("", "", 0).fails(api.ErrKey), put("A", "", last+10),
	}
}

func TestP5PagesTellTheStateOfTheFirstOne(t *testing.T) {
	kept, lists := shaken()
	takenAway := []step{dropv("a", 2), dropv("b/2", 4), dropv("c", 6), dropv("c", 5), dropv("d/1", 8), dropv("e/1", 9), dropv("f", 11), dropv("g", 12)}
	for op, items := range lists {
		for n := 1; n <= 4; n++ {
			first := page(op.Kind, op.Key, op.Delim, op.After, n, false)
			pages := allPages(first, len(kept), items)
			steps := behind(kept, pages[0])
			steps = behind(steps, changes(12)...)
			steps = behind(steps, takenAway...)
			// The pages behind the first one stand behind the changes now: From is shifted by so many steps.
			shift := len(steps) - len(kept) - 1
			for _, p := range pages[1:] {
				if p.op.From > len(kept) {
					p.op.From += shift
				}
				steps = append(steps, p)
			}
			check(t, steps...)
		}
	}
}

func TestP5ChangesBetweenAllPages(t *testing.T) {
	kept, lists := shaken()
	for op, items := range lists {
		for n := 1; n <= 4; n++ {
			var between []step
			for _, name := range []string{"a", "b/2", "c", "d/2", "e/1", "g", "z"} {
				between = append(between, step{op: api.Op{Kind: api.Put, Key: name, Body: "new"}}, step{op: api.Op{Kind: api.Drop, Key: name}})
			}
			pages := allPages(page(op.Kind, op.Key, op.Delim, op.After, n, false), len(kept), items, between...)
			last := 12
			for i := range pages {
				if k := pages[i].op.Kind; k == api.Put || k == api.Drop {
					last++
					pages[i].want.Version = last
				}
			}
			check(t, behind(kept, pages...)...)
		}
	}
}

func TestP5EverythingTakenAwayBetweenPages(t *testing.T) {
	steps, keys, _ := many(5)
	steps = append(steps, page(api.List, "", "", "", 2, true, keys[:2]...))
	for _, k := range keys {
		steps = append(steps, dropv(k.Text, k.Version))
	}
	check(t, behind(steps, stats(0, 10), page(api.Vers, "", "", "", 1, false), next(5, true, keys[2:4]...), next(13, false, keys[4]), stats(0, 10))...)
}

func TestP5PagesToldAgain(t *testing.T) {
	steps, keys, _ := many(6)
	got := check(t, behind(steps,
		page(api.List, "", "", "", 2, true, keys[:2]...), next(6, true, keys[2:4]...), put("k0000", "", 7), next(7, false, keys[4:]...),
		next(6, true, keys[2:4]...), next(7, false, keys[4:]...), next(10, false, keys[4:]...), drop("k003", 8),
		next(6, true, keys[2:4]...), next(14, false, keys[4:]...), next(7, false, keys[4:]...))...)
	for _, i := range []int{10, 14} {
		if got[i].Token != got[7].Token {
			t.Errorf("the tokens of one page: %q, %q", got[7].Token, got[i].Token)
		}
	}
}

func TestP5ListingsSideBySide(t *testing.T) {
	steps, keys, versions := many(4)
	steps = behind(steps,
		page(api.List, "", "", "", 1, true, keys[0]), drop("k001", 5), page(api.List, "", "", "", 1, true, keys[0]), put("k0015", "", 6),
		page(api.List, "", "", "", 2, true, keys[0], key("k0015", 6)))
	check(t, behind(steps,
		next(4, true, keys[1]), next(6, true, keys[2]), next(8, false, keys[2:]...),
		next(10, false, keys[3]), next(9, true, keys[2]), next(13, false, keys[3]),
		page(api.Vers, "", "", "", 6, false, versions[0], marker("k001", 5), versions[1], version("k0015", 6), versions[2], versions[3]))...)
}

// Listings and pages with numbers of more than one digit, open at once and one behind the other.
func TestP5TokensOfAllPagesDiffer(t *testing.T) {
	steps, keys, versions := many(15)
	for range 12 {
		for range api.MaxOpen - 1 {
			steps = append(steps, allPages(page(api.List, "", "", "", 1, false), len(steps), keys)...)
		}
		steps = append(steps, allPages(page(api.Vers, "", "", "", 1, false), len(steps), versions)...)
		steps = append(steps, tick(api.Lease))
	}
	differ(t, check(t, steps...))
}

// differ: all tokens do, of answers among which no page is told twice.
func differ(t *testing.T, all []api.Answer) {
	t.Helper()
	told := map[string]int{}
	for i, a := range all {
		if at, ok := told[a.Token]; ok && a.Token != "" {
			t.Fatalf("the token %q of the steps %d and %d", a.Token, at, i)
		}
		told[a.Token] = i
	}
}

func TestP5From(t *testing.T) {
	steps, keys, _ := many(3)
	steps = behind(steps, page(api.List, "", "", "", 1, true, keys[0]), page(api.List, "", "", "", 3, false, keys...), page(api.List, "", "", "", 0, false).fails(api.ErrMax))
	// The next step is the step 6; behind it is a listing with a token of its own.
	for _, from := range []int{6, 7, 8, 9, 1000, math.MaxInt, math.MaxInt32, 1<<32 + 3, -1, -3, math.MinInt, math.MinInt + 3, math.MinInt32, 0, 1, 2, 4, 5} {
		check(t, behind(steps, next(from, false).fails(api.ErrToken), page(api.List, "", "", "", 1, true, keys[0]), next(3, true, keys[1]))...)
	}
	check(t, behind(steps, next(3, true, keys[1]), next(6, false, keys[2]), next(7, false).fails(api.ErrToken), next(8, false).fails(api.ErrToken))...)
	check(t, next(0, false).fails(api.ErrToken), next(0, false).fails(api.ErrToken), next(-1, false).fails(api.ErrToken))
}

// tokensOf tells the tokens of a listing of three pages, k000, k001, k002, that is begun by the first step behind them.
func tokensOf(t *testing.T) (steps []step, keys []api.Item, second, third string) {
	t.Helper()
	steps, keys, _ = many(3)
	steps = append(steps, page(api.List, "", "", "", 1, true, keys[0]))
	got := check(t, behind(steps, next(3, true, keys[1]))...)
	return steps, keys, got[3].Token, got[4].Token
}

func TestP5Body(t *testing.T) {
	steps, keys, second, third := tokensOf(t)
	for _, from := range []int{-1, 0, 1, 2, 4, 5, 6, math.MaxInt, math.MinInt} {
		byText := nextBy(second, true, keys[1])
		byText.op.From = from
		check(t, behind(steps, byText)...)
	}
	check(t, behind(steps,
		nextBy(second, true, keys[1]), nextBy(third, false, keys[2]), nextBy(second, true, keys[1]), nextBy(third, false, keys[2]), next(6, false, keys[2]))...)
}

func TestP5FromGoesAheadOfBody(t *testing.T) {
	steps, keys, second, third := tokensOf(t)
	by := func(from int, body string, more bool, items ...api.Item) step {
		s := next(from, more, items...)
		s.op.Body = body
		return s
	}
	check(t, behind(steps,
		by(3, "no token", true, keys[1]), by(3, third, true, keys[1]), by(4, second, false, keys[2]), by(6, second, true, keys[1]),
		by(6, third, false, keys[2]), by(8, second, true, keys[1]), by(8, "", false).fails(api.ErrToken))...)
	// A token of a listing that is gone is still the one that From tells.
	check(t, behind(steps, tick(10), page(api.List, "", "", "", 2, true, keys[:2]...), by(3, "no token", false).fails(api.ErrGone), by(3, second, false).fails(api.ErrGone))...)
}

func TestP5TextsThatAreNoToken(t *testing.T) {
	steps, keys, second, third := tokensOf(t)
	texts := append(oddTexts(), "0", "1", "2", "3", "0.0", "0.1", "1.0", "1.1", "1.4", "2.1", "2.2", "-1.2", "1.-2", "1.2.3", ".", "1.", ".2", someToken, "k000", "k001")
	for _, token := range []string{second, third} {
		texts = append(texts, token+" ", " "+token, token+"\n", token+"\x00", "0"+token, "+"+token, "-"+token, token+"0", token+".0", token[1:], token[:len(token)-1],
			token+token, strings.Replace(token, ".", ".0", 1), strings.Replace(token, ".", ".+", 1), strings.Replace(token, ".", ",", 1), strings.Replace(token, ".", "", 1))
	}
	for _, text := range texts {
		check(t, nextBy(text, false).fails(api.ErrToken))
		check(t, behind(steps, next(3, true, keys[1]), nextBy(text, false).fails(api.ErrToken), tick(9), nextBy(text, false).fails(api.ErrToken), stats(3, 1), tick(1), nextBy(text, false).fails(api.ErrToken))...)
	}
}

func TestP5TokensThatWereNotToldAhead(t *testing.T) {
	steps, keys, second, third := tokensOf(t)
	// That of a page whose page ahead was not told.
	check(t, behind(steps, nextBy(third, false).fails(api.ErrToken), next(3, true, keys[1]), nextBy(third, false, keys[2]))...)
	// That of a listing that is not begun yet, or never, or was refused.
	check(t, behind(steps[:3], nextBy(second, false).fails(api.ErrToken), page(api.List, "", "", "", 3, false, keys...), nextBy(second, false).fails(api.ErrToken),
		page(api.List, "", "", "", 0, false).fails(api.ErrMax), nextBy(second, false).fails(api.ErrToken), page(api.List, "", "", "", 1, true, keys[0]))...)
	// That of a page that is not there, of a listing that is gone.
	check(t, behind(steps, tick(10), nextBy(third, false).fails(api.ErrToken), next(3, false).fails(api.ErrGone), nextBy(third, false).fails(api.ErrToken))...)
}

func TestP5RefusedListingsTellNoToken(t *testing.T) {
	steps, keys, _ := many(2)
	first := page(api.List, "", "", "", 1, true, keys[0])
	fourth := check(t, behind(steps, first, first, first, tick(10), first)...)[6].Token
	check(t, behind(steps, first, first, first, first.fails(api.ErrMany), next(5, false).fails(api.ErrToken), nextBy(fourth, false).fails(api.ErrToken), stats(2, 10, 10, 10))...)
}

func TestP5TokensOfAnotherScript(t *testing.T) {
	_, _, second, third := tokensOf(t)
	steps, _, _ := many(3)
	for _, token := range []string{second, third} {
		check(t, behind(steps, nextBy(token, false).fails(api.ErrToken))...)
		check(t, nextBy(token, false).fails(api.ErrToken))
	}
}

func TestP5EndOfALease(t *testing.T) {
	steps, keys, _ := many(3)
	steps = append(steps, page(api.List, "", "", "", 1, true, keys[0]))
	for n := range 15 {
		end := next(3, true, keys[1])
		left := []int{10 - n}
		if n >= api.Lease {
			end, left = end.fails(api.ErrGone), nil
		}
		check(t, behind(steps, tick(n), stats(3, left...), end)...)
		ticks := steps
		for range n {
			ticks = behind(ticks, tick(1))
		}
		check(t, behind(ticks, stats(3, left...), end)...)
	}
	for _, n := range []int{10, 11, 500, 999, api.MaxTick} {
		check(t, behind(steps, tick(n), stats(3), next(3, false).fails(api.ErrGone), next(3, false).fails(api.ErrGone), next(4, false).fails(api.ErrToken))...)
	}
}

func TestP5PagesRenewTheLease(t *testing.T) {
	steps, keys, _ := many(3)
	steps = append(steps, page(api.List, "", "", "", 1, true, keys[0]))
	// The second page, again and again, and the last one: each of them is told.
	for range 30 {
		at := len(steps)
		steps = append(steps, tick(9), stats(3, 1), next(3, true, keys[1]), stats(3, 10), tick(9), next(at+2, false, keys[2]), stats(3, 10), tick(0), stats(3, 10))
	}
	check(t, behind(steps, tick(9), next(len(steps)-4, false).fails(api.ErrToken), stats(3, 1), tick(1), next(3, false).fails(api.ErrGone))...)
	// A lease is whole again, and no longer than that.
	check(t, behind(steps[:4], next(3, true, keys[1]), next(3, true, keys[1]), next(4, false, keys[2]), stats(3, 10), tick(10), stats(3), next(4, false).fails(api.ErrGone))...)
}

func TestP5WhatRenewsNoLease(t *testing.T) {
	steps, keys, versions := many(3)
	first := page(api.List, "", "", "", 1, true, keys[0])
	steps = append(steps, first, tick(4), first, tick(1), first, tick(2))
	refused := []step{
		first.fails(api.ErrMany), page(api.Vers, "", "", "", 0, false).fails(api.ErrMax), page(api.Vers, "", "", "", 9, false, versions...), get("k000", "", 1),
		next(0, false).fails(api.ErrToken), nextBy("no token", false).fails(api.ErrToken), tick(-1).fails(api.ErrTime), tick(1001).fails(api.ErrTime), tick(0),
		put("x", "", 4), drop("x", 5), dropv("x", 4), dropv("x", 5), {op: api.Op{Kind: 13}, want: api.Answer{Code: api.ErrKind}}, stats(3, 3, 7, 8),
	}
	check(t, behind(behind(steps, refused...), stats(3, 3, 7, 8), tick(3), next(3, false).fails(api.ErrGone), stats(3, 4, 5), next(5, true, keys[1]), stats(3, 10, 5))...)
}

func TestP5ListingsThatEndLeaveRoom(t *testing.T) {
	steps, keys, _ := many(2)
	first := page(api.List, "", "", "", 1, true, keys[0])
	no := first.fails(api.ErrMany)
	check(t, behind(steps,
		first, tick(3), first, tick(3), first, no, tick(3), no, stats(2, 1, 4, 7), tick(1), stats(2, 3, 6), first, no, stats(2, 3, 6, 10),
		// A page told again holds its listing's room.
		next(4, false, keys[1]), tick(5), no, stats(2, 5, 1, 5), tick(1), stats(2, 4, 4), first, no, stats(2, 4, 4, 10),
		tick(4), stats(2, 6), first, first, no, stats(2, 6, 10, 10), tick(10), stats(2), first, first, first, no)...)
}

func TestP5TheMiddleOneEnds(t *testing.T) {
	steps, keys, _ := many(2)
	first, last := page(api.List, "", "", "", 1, true, keys[0]), keys[1]
	check(t, behind(steps,
		first, first, first, tick(6), next(2, false, last), next(4, false, last), stats(2, 10, 4, 10), tick(4), stats(2, 6, 6),
		next(3, false).fails(api.ErrGone), next(2, false, last), tick(1), first, stats(2, 9, 5, 10), next(3, false).fails(api.ErrGone), next(4, false, last), next(14, false, last), stats(2, 9, 10, 10))...)
}

func TestP5TokensOfGoneListingsAreNotGivenAgain(t *testing.T) {
	steps, keys, _ := many(3)
	first := page(api.List, "", "", "", 1, true, keys[0])
	for i := range 200 {
		at := len(steps)
		steps = append(steps, first, next(at, true, keys[1]), next(at+1, false, keys[2]), tick(10), next(at, false).fails(api.ErrGone), next(at+1, false).fails(api.ErrGone))
		if i > 0 {
			steps = append(steps, next(3, false).fails(api.ErrGone), next(4, false).fails(api.ErrGone))
		}
	}
	differ(t, check(t, steps...))
}

func TestP5GoneByBody(t *testing.T) {
	steps, keys, second, third := tokensOf(t)
	gone := []step{nextBy(second, false).fails(api.ErrGone), nextBy(third, false).fails(api.ErrGone)}
	steps = behind(steps, next(3, true, keys[1]), tick(10))
	check(t, behind(behind(steps, gone...), gone...)...)
	check(t, behind(behind(steps, page(api.List, "", "", "", 1, true, keys[0]), page(api.List, "", "", "", 1, true, keys[0]), tick(3)), gone...)...)
	check(t, behind(behind(steps, dropv("k000", 1), dropv("k001", 2), dropv("k002", 3)), gone...)...)
}

func TestP5TickNumbers(t *testing.T) {
	steps, keys, _ := many(2)
	steps = append(steps, page(api.List, "", "", "", 1, true, keys[0]), tick(3))
	for _, n := range []int{-1, -3, -10, -1000, math.MinInt, math.MinInt32, api.MaxTick + 1, 1 << 32, 1<<32 + 1, math.MaxInt, math.MaxInt32} {
		check(t, behind(steps, tick(n).fails(api.ErrTime), stats(2, 7), next(2, false, keys[1]), stats(2, 10))...)
		check(t, tick(n).fails(api.ErrTime))
	}
	for _, n := range []int{0, 1, 6} {
		check(t, behind(steps, tick(n), stats(2, 7-n), next(2, false, keys[1]))...)
	}
	for _, n := range []int{7, 10, api.MaxTick - 1, api.MaxTick} {
		check(t, behind(steps, tick(n), stats(2), next(2, false).fails(api.ErrGone))...)
	}
}

func TestP5LeasesAtAnyTime(t *testing.T) {
	steps, keys, _ := many(2)
	first := page(api.List, "", "", "", 1, true, keys[0])
	for i := range 3000 {
		steps = append(steps, tick(api.MaxTick-i%2), stats(2), first, stats(2, 10), tick(9), next(len(steps)+2, false, keys[1]), stats(2, 10))
	}
	check(t, steps...)
}

func TestP5StatsCountVersions(t *testing.T) {
	check(t, stats(0), put("a", "", 1), stats(1), put("a", "", 2), drop("a", 3), stats(3), drop("b", 4), stats(4), put("", "", 0).fails(api.ErrKey), stats(4),
		dropv("a", 3), stats(3), dropv("a", 3).fails(api.ErrNone), stats(3), dropv("b", 4), dropv("a", 1), dropv("a", 2), stats(0), put("a", "", 5), stats(1))
	var steps []step
	for n := 1; n <= api.MaxVersions; n++ {
		steps = append(steps, put(fmt.Sprint(n%7), "", n), stats(n))
	}
	check(t, behind(steps, put("a", "", 0).fails(api.ErrFull), drop("1", 0).fails(api.ErrFull), stats(200), dropv("1", 1), stats(199))...)
}

func TestP5StatsOfOpenListings(t *testing.T) {
	steps, keys, versions := many(3)
	whole := page(api.List, "", "", "", 3, false, keys...)
	check(t, behind(steps, stats(3), whole, stats(3), page(api.List, "no", "", "", 1, false), page(api.List, "", "", "", 0, false).fails(api.ErrMax), stats(3),
		page(api.Vers, "", "", "", 2, true, versions[:2]...), stats(3, 10), tick(1), whole, stats(3, 9), page(api.List, "", "", "", 1, true, keys[0]), stats(3, 9, 10),
		tick(2), stats(3, 7, 8), page(api.List, "", "", "", 2, true, keys[:2]...), page(api.List, "", "", "", 2, false).fails(api.ErrMany), stats(3, 7, 8, 10),
		// A page that is told, the last one too, leaves its listing open and in its place.
		next(9, false, versions[2]), stats(3, 10, 8, 10), tick(7), stats(3, 3, 1, 3), next(14, true, keys[1]), stats(3, 3, 10, 3), tick(3), stats(3, 7), tick(7), stats(3))...)
}

func TestP5FieldsThatAreNotNamed(t *testing.T) {
	steps, keys, _ := many(3)
	steps = append(steps, page(api.List, "", "", "", 1, true, keys[0]))
	for _, n := range edgeNumbers() {
		for _, text := range oddTexts() {
			further, passed, told := next(3, true, keys[1]), tick(2), stats(3, 8)
			further.op.N = n
			passed.op.From, passed.op.Body = n, text
			told.op.From, told.op.Body, told.op.N = n, text, n
			for _, op := range []*api.Op{&further.op, &passed.op, &told.op} {
				op.Key, op.Delim, op.After = text, text, text
			}
			check(t, behind(steps, further, passed, told, next(3, true, keys[1]))...)
		}
	}
}

func TestP5StepsChangeNothingKept(t *testing.T) {
	steps, keys, versions := many(3)
	steps = behind(steps, page(api.List, "", "", "", 1, true, keys[0]), next(3, true, keys[1]), next(4, false, keys[2]), tick(4), stats(3, 6), tick(1000), stats(3), next(3, false).fails(api.ErrGone))
	check(t, behind(steps, page(api.Vers, "", "", "", 3, false, versions...), get("k000", "", 1), put("k000", "x", 4), getv("k000", 1, ""), drop("k001", 5), stats(5))...)
}

func TestP5ManyPagesOfAFullShelf(t *testing.T) {
	steps, _, versions := many(api.MaxVersions)
	first := page(api.Vers, "", "", "", 1, true, versions[0])
	pages := allPages(first, len(steps), versions)
	steps = append(steps, pages...)
	// All of them again, from the last one to the first.
	again := slices.Clone(pages[1:])
	slices.Reverse(again)
	check(t, behind(behind(steps, again...), stats(200, 10))...)
}
