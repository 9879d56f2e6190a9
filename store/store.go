// Package store keeps the versions of keys, gives them their numbers, and saves all that it keeps.
package store

import (
	"math"
	"strings"

	"shelf/api"
	"shelf/tree"
)

// State is all versions of one moment, by their keys: a root that no later step changes.
type State = tree.Tree[History]

// Store is what is kept now. The zero value is empty.
type Store struct {
	histories State  // of the keys that have a version, never an empty one
	count     int    // how many versions there are, markers too
	last      int    // the number given last; it never falls, so that none is given again
	time      uint64 // units that went by
}

// Put makes a new version of the key, and tells its number.
func (s *Store) Put(key, body string) (int, api.Errno) {
	switch {
	case !isKey(key):
		return 0, api.ErrKey
	case len(body) > api.MaxBody:
		return 0, api.ErrBody
	case s.isFull():
		return 0, api.ErrFull
	}
	// A copy: what is handed in is not kept.
	return s.add(key, Version{Body: strings.Clone(body)}), api.OK
}

// Drop makes a marker the newest version of the key, and tells its number.
func (s *Store) Drop(key string) (int, api.Errno) {
	switch {
	case !isKey(key):
		return 0, api.ErrKey
	case s.isFull():
		return 0, api.ErrFull
	}
	return s.add(key, Version{Marker: true}), api.OK
}

// Get tells the newest version of a key that is there.
func (s *Store) Get(key string) (Version, api.Errno) {
	if !isKey(key) {
		return Version{}, api.ErrKey
	}
	h, ok := s.histories.Get(key)
	if !ok || h.Newest().Marker {
		return Version{}, api.ErrNone
	}
	return h.Newest(), api.OK
}

// GetVersion tells the version of the key that has the number.
func (s *Store) GetVersion(key string, number int) (Version, api.Errno) {
	h, place, code := s.find(key, number)
	switch {
	case code != api.OK:
		return Version{}, code
	case h[place].Marker:
		return Version{}, api.ErrMarker
	}
	return h[place], api.OK
}

// DropVersion takes away the version, or marker, of the key that has the number.
func (s *Store) DropVersion(key string, number int) api.Errno {
	h, place, code := s.find(key, number)
	if code != api.OK {
		return code
	}
	s.count--
	if len(h) == 1 {
		s.histories = s.histories.Without(key)
	} else {
		s.histories = s.histories.With(key, h.without(place))
	}
	return api.OK
}

// Pass lets so many units of time, not below 0, go by.
func (s *Store) Pass(units int) { s.time += uint64(units) }

// State tells what is kept now.
func (s *Store) State() State { return s.histories }

// Count tells how many versions there are, markers too.
func (s *Store) Count() int { return s.count }

func isKey(key string) bool { return 1 <= len(key) && len(key) <= api.MaxKey }

// isFull: no script gives all numbers, but bytes that are loaded may tell that they were given.
func (s *Store) isFull() bool { return s.count >= api.MaxVersions || s.last == math.MaxInt }

func (s *Store) add(key string, v Version) int {
	s.last++
	s.count++
	v.Number = s.last
	h, _ := s.histories.Get(key)
	s.histories = s.histories.With(key, h.with(v))
	return v.Number
}

// find tells the history of the key, and the place of the number in it.
func (s *Store) find(key string, number int) (History, int, api.Errno) {
	if !isKey(key) {
		return nil, 0, api.ErrKey
	}
	h, _ := s.histories.Get(key)
	place, ok := h.find(number)
	if !ok {
		return nil, 0, api.ErrNone
	}
	return h, place, api.OK
}
