package store

import (
	"math"
	"reflect"
	"strings"
	"testing"

	"shelf/api"
)

// Parts, as they are saved.
func versionOf(number uint64, key, body string) string {
	return string(appendText(appendText(appendNumber([]byte{versionPart}, number), key), body))
}

func markerOf(number uint64, key string) string {
	return string(appendText(appendNumber([]byte{markerPart}, number), key))
}

func nextOf(number uint64) string { return string(appendNumber([]byte{nextPart}, number)) }

func timeOf(time uint64) string { return string(appendNumber([]byte{timePart}, time)) }

func TestSavedForm(t *testing.T) {
	var s Store
	s.Put("b", "x")
	s.Drop("a")
	s.Put("b", "")
	s.Put("c", "")
	s.DropVersion("c", 4)
	s.Pass(258)
	want := versionOf(1, "b", "x") + markerOf(2, "a") + versionOf(3, "b", "") + nextOf(5) + timeOf(258)
	if got := s.Save(); got != want {
		t.Errorf("%q, want %q", got, want)
	}
	plain := "\x01\x00\x00\x00\x00\x00\x00\x00\x01\x01b\x01x\x02\x00\x00\x00\x00\x00\x00\x00\x02\x01a\x01\x00\x00\x00\x00\x00\x00\x00\x03\x01b\x00" +
		"\x03\x00\x00\x00\x00\x00\x00\x00\x05\x04\x00\x00\x00\x00\x00\x00\x01\x02"
	if want != plain {
		t.Errorf("%q, want %q", want, plain)
	}
}

// kept tells what a store keeps, without its roots: they are other ones behind a LOAD.
func kept(s Store) (map[string]History, int, int, uint64) {
	all := map[string]History{}
	for key, history := range s.State().From("") {
		all[key] = history
	}
	return all, s.count, s.last, s.time
}

func sameKept(t *testing.T, what string, got, want Store) {
	t.Helper()
	gotAll, gotCount, gotLast, gotTime := kept(got)
	wantAll, wantCount, wantLast, wantTime := kept(want)
	if !reflect.DeepEqual(gotAll, wantAll) || gotCount != wantCount || gotLast != wantLast || gotTime != wantTime {
		t.Errorf("%s: %#v, %d, %d, %d, want %#v, %d, %d, %d", what, gotAll, gotCount, gotLast, gotTime, wantAll, wantCount, wantLast, wantTime)
	}
}

func TestLoadTellsWhatWasSaved(t *testing.T) {
	var s Store
	for range 3 {
		for _, key := range []string{"b", "a", "ab", "\x00", strings.Repeat("\xff", api.MaxKey)} {
			s.Put(key, key)
			s.Drop(key)
			s.Put(key, strings.Repeat(key[:1], api.MaxBody))
			s.DropVersion(key, s.last-2)
			got, code := Load(s.Save())
			if code != api.OK {
				t.Fatalf("refused: %q", s.Save())
			}
			sameKept(t, "loaded", got, s)
			s.Pass(1000)
		}
	}
}

func TestLoadedStoresShareNothing(t *testing.T) {
	var s Store
	s.Put("a", "1")
	s.Put("a", "2")
	saved := s.Save()
	one, _ := Load(saved)
	other, _ := Load(saved)
	one.DropVersion("a", 1)
	one.Put("a", "one")
	other.Put("a", "other")
	sameKept(t, "the saved one", s, func() Store { again, _ := Load(saved); return again }())
	if v, _ := other.Get("a"); v.Body != "other" || other.Count() != 3 {
		t.Errorf("%+v of %d versions", v, other.Count())
	}
}

func TestBytesThatAreTaken(t *testing.T) {
	const top = math.MaxInt
	for _, saved := range []string{
		nextOf(1) + timeOf(0), nextOf(1) + timeOf(math.MaxUint64), nextOf(top) + timeOf(1), nextOf(top+1) + timeOf(1),
		versionOf(7, "b", "x") + markerOf(9, "a") + versionOf(10, "b", "") + nextOf(11) + timeOf(0),
		versionOf(7, "b", "x") + nextOf(1000) + timeOf(0), markerOf(top, "a") + nextOf(top+1) + timeOf(0),
	} {
		s, code := Load(saved)
		if code != api.OK || s.Save() != saved {
			t.Errorf("%q: code %d, saved as %q", saved, code, s.Save())
		}
	}
}

func TestBytesThatAreRefused(t *testing.T) {
	full := ""
	for n := range uint64(api.MaxVersions) {
		full += versionOf(n+1, "a", "")
	}
	if _, code := Load(full + nextOf(201) + timeOf(0)); code != api.OK {
		t.Errorf("as many versions as there may be: code %d", code)
	}
	const top = math.MaxInt
	end := nextOf(9) + timeOf(5)
	for what, saved := range map[string]string{
		"nothing":                  "",
		"no time":                  nextOf(9),
		"no next number":           timeOf(5),
		"no number, but versions":  versionOf(1, "a", "") + timeOf(5),
		"versions alone":           versionOf(1, "a", ""),
		"the time first":           timeOf(5) + nextOf(9),
		"the number first":         nextOf(1) + versionOf(1, "a", "") + timeOf(5),
		"two numbers":              nextOf(8) + end,
		"the same number twice":    nextOf(9) + end,
		"two times":                end + timeOf(6),
		"the same time twice":      end + timeOf(5),
		"a version behind the end": end + versionOf(9, "a", ""),
		"a version behind numbers": nextOf(2) + versionOf(2, "a", "") + end,
		"next is 0":                nextOf(0) + timeOf(5),
		"next was given":           versionOf(9, "a", "") + end,
		"next was given long ago":  versionOf(10, "a", "") + end,
		"a next number too far":    nextOf(top+2) + timeOf(5),
		"the greatest next number": nextOf(math.MaxUint64) + timeOf(5),
		"a version 0":              versionOf(0, "a", "") + end,
		"a marker 0":               markerOf(0, "a") + end,
		"a version too far":        versionOf(top+1, "a", "") + nextOf(top+1) + timeOf(5),
		"a marker too far":         markerOf(top+1, "a") + nextOf(top+1) + timeOf(5),
		"a version below 0":        versionOf(math.MaxUint64, "a", "") + end,
		"a number twice":           versionOf(1, "a", "") + versionOf(1, "a", "") + end,
		"a number of two keys":     versionOf(1, "a", "") + versionOf(1, "b", "") + end,
		"a number, and a marker":   versionOf(1, "a", "") + markerOf(1, "b") + end,
		"numbers that fall":        versionOf(2, "a", "") + versionOf(1, "a", "") + end,
		"numbers of keys fall":     versionOf(2, "a", "") + versionOf(1, "b", "") + end,
		"no key":                   versionOf(1, "", "") + end,
		"a marker of no key":       markerOf(1, "") + end,
		"a long key":               versionOf(1, strings.Repeat("k", api.MaxKey+1), "") + end,
		"a marker of a long key":   markerOf(1, strings.Repeat("k", api.MaxKey+1)) + end,
		"a long body":              versionOf(1, "a", strings.Repeat("b", api.MaxBody+1)) + end,
		"a version too many":       full + versionOf(201, "b", "") + nextOf(202) + timeOf(0),
		"a marker too many":        full + markerOf(201, "b") + nextOf(202) + timeOf(0),
		"a part 0":                 "\x00" + end,
		"a part 5":                 "\x05" + end,
		"a part behind the end":    end + "\x00",
		"an empty part":            end + string([]byte{timePart}),
		"a body that is cut short": versionOf(1, "a", "body")[:14],
	} {
		s, code := Load(saved)
		if code != api.ErrBytes || !reflect.DeepEqual(s, Store{}) {
			t.Errorf("%s: code %d, %+v", what, code, s)
		}
	}
}

// Whatever is taken, what is saved behind it is taken too: the numbers end, and the time goes round.
func TestNumbersAndTimeAtTheirEnds(t *testing.T) {
	s, _ := Load(nextOf(math.MaxInt) + timeOf(math.MaxUint64-2))
	if number, code := s.Put("a", "x"); number != math.MaxInt || code != api.OK {
		t.Errorf("the last number: %d, code %d", number, code)
	}
	for range 2 {
		if number, code := s.Put("a", "y"); number != 0 || code != api.ErrFull {
			t.Errorf("PUT behind the last number: %d, code %d", number, code)
		}
		if number, code := s.Drop("a"); number != 0 || code != api.ErrFull {
			t.Errorf("DROP behind the last number: %d, code %d", number, code)
		}
	}
	s.Pass(1000)
	again, code := Load(s.Save())
	if code != api.OK {
		t.Fatalf("refused: %q", s.Save())
	}
	sameKept(t, "loaded", again, s)
	s.DropVersion("a", math.MaxInt)
	if _, code := Load(s.Save()); code != api.OK {
		t.Errorf("refused: %q", s.Save())
	}
}

func FuzzLoad(f *testing.F) {
	f.Add("")
	f.Add(nextOf(1) + timeOf(0))
	f.Add(versionOf(7, "b", "x") + markerOf(9, "a") + versionOf(10, "b", "") + nextOf(11) + timeOf(3))
	f.Add(versionOf(math.MaxInt-1, "key", "body") + nextOf(math.MaxInt) + timeOf(math.MaxUint64))
	f.Fuzz(func(t *testing.T, saved string) {
		s, code := Load(saved)
		if code == api.ErrBytes {
			return
		}
		if code != api.OK || s.Save() != saved {
			t.Fatalf("%q: code %d, saved as %q", saved, code, s.Save())
		}
		s.Put("a", "x")
		s.Drop("b")
		s.Pass(1000)
		again, code := Load(s.Save())
		if code != api.OK {
			t.Fatalf("refused: %q", s.Save())
		}
		sameKept(t, "loaded", again, s)
	})
}
