package store

import (
	"cmp"
	"slices"
)

// Version is a version of a key: a body, or a marker.
type Version struct {
	Number int
	Body   string
	Marker bool
}

// history: the versions of a key, the newest one last. States share histories, so none is changed:
// what differs is a new one.
type history []Version

// newest presumes a history that is not empty: keys without versions have none.
func (h history) newest() Version { return h[len(h)-1] }

func (h history) find(number int) (int, bool) {
	return slices.BinarySearchFunc(h, number, func(v Version, n int) int {
		return cmp.Compare(v.Number, n)
	})
}

func (h history) with(v Version) history {
	return append(slices.Clone(h), v)
}

func (h history) without(place int) history {
	return slices.Delete(slices.Clone(h), place, place+1)
}
