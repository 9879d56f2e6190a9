package store

import (
	"reflect"
	"testing"

	"shelf/api"
)

func TestEarlierStateStays(t *testing.T) {
	var s Store
	s.Put("a", "1")
	s.Put("a", "2")
	s.Put("a", "3")
	s.Put("b", "4")
	earlier := s
	s.DropVersion("a", 1)
	s.Put("a", "5")
	s.Drop("b")
	s.DropVersion("b", 4)
	for _, want := range []struct {
		key     string
		history History
	}{
		{"a", History{{Number: 1, Body: "1"}, {Number: 2, Body: "2"}, {Number: 3, Body: "3"}}},
		{"b", History{{Number: 4, Body: "4"}}},
	} {
		if got, _ := earlier.histories.Get(want.key); !reflect.DeepEqual(got, want.history) {
			t.Errorf("%q in the earlier state: %v, want %v", want.key, got, want.history)
		}
	}
}

func TestTwoWaysFromOneState(t *testing.T) {
	var one Store
	for range 3 {
		one.Put("a", "x")
	}
	one.DropVersion("a", 3)
	other := one
	one.Put("a", "one")
	other.Put("a", "other")
	if v, _ := one.Get("a"); v.Body != "one" {
		t.Errorf("the other way wrote into this one: %+v", v)
	}
}

func TestKeyWithoutVersionsIsNotKept(t *testing.T) {
	var s Store
	s.Put("key", "x")
	s.Drop("key")
	s.DropVersion("key", 1)
	s.DropVersion("key", 2)
	if h, ok := s.histories.Get("key"); ok {
		t.Errorf("a history without versions: %v", h)
	}
	if s.Count() != 0 {
		t.Errorf("%d versions of an empty store", s.Count())
	}
}

func TestErrorsTellNothingElse(t *testing.T) {
	var s Store
	s.Put("a", "x")
	s.Drop("a")
	if v, code := s.Get("a"); v != (Version{}) || code != api.ErrNone {
		t.Errorf("GET of a marker: %+v, %d", v, code)
	}
	if v, code := s.GetVersion("a", 2); v != (Version{}) || code != api.ErrMarker {
		t.Errorf("GETV of a marker: %+v, %d", v, code)
	}
}
