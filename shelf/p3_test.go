package shelf_test

import (
	"math"
	"strings"
	"testing"

	"shelf/api"
)

var (
	longestKey  = strings.Repeat("k", api.MaxKey)
	longKey     = longestKey + "k"
	longestBody = strings.Repeat("b", api.MaxBody)
	longBody    = longestBody + "b"
)

func TestP3Example1(t *testing.T) {
	check(t,
		put("a", "x", 1), put("b", "y", 2), put("a", "z", 3),
		get("a", "z", 3), getv("a", 1, "x"), getv("a", 2, "").fails(api.ErrNone),
		drop("a", 4), get("a", "", 0).fails(api.ErrNone), getv("a", 4, "").fails(api.ErrMarker),
		dropv("a", 4), get("a", "z", 3))
}

func TestP3EmptyShelf(t *testing.T) {
	check(t,
		get("a", "", 0).fails(api.ErrNone), getv("a", 1, "").fails(api.ErrNone), getv("a", 0, "").fails(api.ErrNone),
		dropv("a", 1).fails(api.ErrNone), put("a", "", 1), get("a", "", 1))
}

func TestP3Keys(t *testing.T) {
	good := []string{"a", "\x00", "\xff", "\x00\x00", "a/b", " ", "\u20ac", longestKey, strings.Repeat("\xff", api.MaxKey), longestKey[1:]}
	var steps []step
	for i, key := range good {
		steps = append(steps, put(key, key, i+1))
	}
	for i, key := range good {
		steps = append(steps, get(key, key, i+1), getv(key, i+1, key))
	}
	check(t, steps...)
	// MaxKey counts bytes, not runes.
	bad := []string{"", longKey, strings.Repeat("\u20ac", 14), strings.Repeat("k", 1<<20)}
	for _, key := range bad {
		check(t,
			put(key, "x", 0).fails(api.ErrKey), get(key, "", 0).fails(api.ErrKey), getv(key, 1, "").fails(api.ErrKey),
			drop(key, 0).fails(api.ErrKey), dropv(key, 1).fails(api.ErrKey), put("a", "x", 1))
	}
	check(t, put(strings.Repeat("\u20ac", 13), "x", 1))
}

func TestP3KeysDoNotMix(t *testing.T) {
	check(t,
		put("ab", "1", 1), get("a", "", 0).fails(api.ErrNone), get("abc", "", 0).fails(api.ErrNone), get("b", "", 0).fails(api.ErrNone),
		put("abc", "2", 2), put("a", "3", 3), get("ab", "1", 1), get("abc", "2", 2), get("a", "3", 3),
		getv("a", 1, "").fails(api.ErrNone), dropv("a", 1).fails(api.ErrNone),
		dropv("ab", 1), get("ab", "", 0).fails(api.ErrNone), get("abc", "2", 2), get("a", "3", 3),
		drop("a", 4), get("abc", "2", 2), put("A", "5", 5), get("a", "", 0).fails(api.ErrNone), get("A", "5", 5))
}

func TestP3Bodies(t *testing.T) {
	check(t,
		put("a", "", 1), get("a", "", 1), getv("a", 1, ""),
		put("a", longestBody, 2), get("a", longestBody, 2), getv("a", 2, longestBody),
		put("a", longBody, 0).fails(api.ErrBody), put("a", strings.Repeat("b", 1<<20), 0).fails(api.ErrBody),
		// MaxBody counts bytes, not runes.
		put("a", strings.Repeat("\u20ac", 34), 0).fails(api.ErrBody), put("a", strings.Repeat("\u20ac", 33), 3),
		put("a", "\x00\xff\n", 4), get("a", "\x00\xff\n", 4))
}

func TestP3FieldsThatAreNotNamed(t *testing.T) {
	odd := func(s step) step {
		s.op.Delim, s.op.After, s.op.From = longBody, longKey, math.MinInt
		if s.op.Kind != api.Put {
			s.op.Body = longBody
		}
		if s.op.Kind != api.GetV && s.op.Kind != api.DropV {
			s.op.N = math.MaxInt
		}
		return s
	}
	check(t, odd(put("a", "x", 1)), odd(get("a", "x", 1)), odd(getv("a", 1, "x")), odd(drop("a", 2)), odd(dropv("a", 2)), odd(get("a", "x", 1)))
}

// full makes as many versions as there may be, of which every second one is a marker of the key m.
func full() []step {
	var steps []step
	for n := 1; n <= api.MaxVersions; n++ {
		if n%2 == 0 {
			steps = append(steps, drop("m", n))
		} else {
			steps = append(steps, put("k"+string(rune(n)), "x", n))
		}
	}
	return steps
}

func TestP3Full(t *testing.T) {
	check(t, append(full(),
		put("a", "x", 0).fails(api.ErrFull), drop("a", 0).fails(api.ErrFull), drop("m", 0).fails(api.ErrFull),
		get("a", "", 0).fails(api.ErrNone), getv("m", 4, "").fails(api.ErrMarker), get("k\x01", "x", 1),
		dropv("m", 201).fails(api.ErrNone), put("a", "x", 0).fails(api.ErrFull),
		dropv("m", 4), drop("a", 201), put("a", "x", 0).fails(api.ErrFull),
		dropv("k\x01", 1), put("a", "y", 202), get("a", "y", 202), drop("a", 0).fails(api.ErrFull),
		get("a", "y", 202))...)
}

func TestP3FullOfOneKey(t *testing.T) {
	var steps []step
	for n := 1; n <= api.MaxVersions; n++ {
		steps = append(steps, put("a", "x", n))
	}
	steps = append(steps, put("a", "x", 0).fails(api.ErrFull))
	for n := 1; n <= api.MaxVersions; n++ {
		steps = append(steps, getv("a", n, "x"), dropv("a", n), put("a", "y", api.MaxVersions+n), put("a", "z", 0).fails(api.ErrFull))
	}
	check(t, append(steps, get("a", "y", 2*api.MaxVersions))...)
}

func TestP3FirstError(t *testing.T) {
	check(t, put("", longBody, 0).fails(api.ErrKey), put(longKey, longBody, 0).fails(api.ErrKey))
	check(t, append(full(),
		put("", longBody, 0).fails(api.ErrKey), put(longKey, "x", 0).fails(api.ErrKey), put("a", longBody, 0).fails(api.ErrBody),
		drop("", 0).fails(api.ErrKey), drop(longKey, 0).fails(api.ErrKey),
		get("", "", 0).fails(api.ErrKey), getv("", 2, "").fails(api.ErrKey), dropv(longKey, 2).fails(api.ErrKey))...)
}

func TestP3NumbersAreGivenOnce(t *testing.T) {
	check(t,
		put("a", "1", 1), dropv("a", 1), put("a", "2", 2), get("a", "2", 2), getv("a", 1, "").fails(api.ErrNone),
		put("b", "3", 3), dropv("b", 3), dropv("a", 2), put("c", "4", 4), drop("a", 5), dropv("a", 5), drop("a", 6),
		put("b", longBody, 0).fails(api.ErrBody), put("", "", 0).fails(api.ErrKey), drop("", 0).fails(api.ErrKey), put("b", "7", 7))
}

func TestP3NumbersThatNoVersionHas(t *testing.T) {
	steps := []step{put("a", "1", 1), put("b", "2", 2), put("a", "3", 3)}
	for _, n := range edgeNumbers() {
		if n == 1 {
			continue
		}
		steps = append(steps, getv("a", n, "").fails(api.ErrNone), dropv("a", n).fails(api.ErrNone))
	}
	check(t, append(steps, getv("a", 4, "").fails(api.ErrNone), getv("a", 1, "1"), getv("a", 3, "3"), getv("b", 2, "2"), get("a", "3", 3))...)
}

func TestP3VersionsInTheMidst(t *testing.T) {
	check(t,
		put("a", "1", 1), put("a", "2", 2), put("a", "3", 3), put("a", "4", 4),
		dropv("a", 2), get("a", "4", 4), getv("a", 1, "1"), getv("a", 2, "").fails(api.ErrNone), getv("a", 3, "3"),
		dropv("a", 2).fails(api.ErrNone), dropv("a", 4), get("a", "3", 3), dropv("a", 1), get("a", "3", 3), getv("a", 3, "3"))
}

func TestP3LastVersionGoes(t *testing.T) {
	check(t,
		put("ab", "1", 1), put("abc", "2", 2),
		dropv("ab", 1), get("ab", "", 0).fails(api.ErrNone), getv("ab", 1, "").fails(api.ErrNone), dropv("ab", 1).fails(api.ErrNone),
		get("abc", "2", 2), put("ab", "3", 3), get("ab", "3", 3), getv("ab", 3, "3"), getv("ab", 1, "").fails(api.ErrNone))
}

func TestP3Markers(t *testing.T) {
	check(t,
		drop("a", 1), get("a", "", 0).fails(api.ErrNone), getv("a", 1, "").fails(api.ErrMarker),
		drop("a", 2), put("a", "x", 3), get("a", "x", 3), getv("a", 2, "").fails(api.ErrMarker),
		drop("a", 4), drop("a", 5), get("a", "", 0).fails(api.ErrNone), getv("a", 3, "x"),
		dropv("a", 5), get("a", "", 0).fails(api.ErrNone), dropv("a", 4), get("a", "x", 3),
		dropv("a", 3), get("a", "", 0).fails(api.ErrNone), dropv("a", 1), dropv("a", 2), dropv("a", 2).fails(api.ErrNone),
		getv("a", 2, "").fails(api.ErrNone))
	check(t,
		put("a", "x", 1), drop("a", 2), put("a", "y", 3), get("a", "y", 3),
		dropv("a", 3), get("a", "", 0).fails(api.ErrNone), dropv("a", 2), get("a", "x", 1))
}

func TestP3ErrorsChangeNothing(t *testing.T) {
	wrong := []step{
		put("", "x", 0).fails(api.ErrKey), put(longKey, "x", 0).fails(api.ErrKey), put("a", longBody, 0).fails(api.ErrBody),
		get("", "", 0).fails(api.ErrKey), get("no", "", 0).fails(api.ErrNone), get("m", "", 0).fails(api.ErrNone),
		getv("a", 2, "").fails(api.ErrNone), getv("m", 2, "").fails(api.ErrMarker),
		drop("", 0).fails(api.ErrKey), drop(longKey, 0).fails(api.ErrKey),
		dropv("", 1).fails(api.ErrKey), dropv("a", 2).fails(api.ErrNone), dropv("no", 1).fails(api.ErrNone),
		step{op: api.Op{Kind: 13, Key: "a", N: 1}}.fails(api.ErrKind),
	}
	for _, w := range wrong {
		check(t, put("a", "x", 1), drop("m", 2), w, w,
			get("a", "x", 1), getv("a", 1, "x"), getv("m", 2, "").fails(api.ErrMarker), get("no", "", 0).fails(api.ErrNone),
			dropv("m", 2), get("m", "", 0).fails(api.ErrNone), put("a", "y", 3))
		// Nor do they take room: behind them there is place for exactly as many versions as ahead.
		steps := []step{put("a", "x", 1), drop("m", 2), w, w, w}
		for n := 3; n <= api.MaxVersions; n++ {
			steps = append(steps, put("z", "", n))
		}
		check(t, append(steps, put("z", "", 0).fails(api.ErrFull))...)
	}
}
