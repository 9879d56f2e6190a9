package store

import (
	"cmp"
	"slices"
)

// Version is a version of a key: a body, or a marker.
type Version struct {
	Number int
	Body   string
	Marker bool
}

// History is the versions of a key, the newest one last. States share histories, so none is changed:
// what differs is a new one.
type History []Version

// Newest presumes a history that is not empty: keys without versions have none.
func (h History) Newest() Version { return h[len(h)-1] }

func (h History) find(number int) (int, bool) {
	return slices.BinarySearchFunc(h, number, func(v Version, n int) int {
		return cmp.Compare(v.Number, n)
	})
}

func (h History) with(v Version) History {
	return append(slices.Clone(h), v)
}

func (h History) without(place int) History {
	return slices.Delete(slices.Clone(h), place, place+1)
}
