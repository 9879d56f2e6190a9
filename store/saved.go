package store

import (
	"cmp"
	"math"
	"slices"

	"shelf/api"
)

// The parts of what is saved: the versions and markers, by their numbers, and what goes behind them.
// Each begins with its byte.
const (
	versionPart = iota + 1 // number, key, body
	markerPart             // number, key
	nextPart               // the number that will be given next
	timePart               // the time
)

// How many bytes tell which part it is, a number, and the length of a key or a body.
const (
	partWidth   = 1
	numberWidth = 8
	lengthWidth = 1
)

// entry is a version with its key.
type entry struct {
	key string
	Version
}

// Save tells all that is kept as bytes, the same ones for the same versions, number and time.
func (s *Store) Save() string {
	var saved []byte
	for _, e := range s.entries() {
		saved = appendEntry(saved, e)
	}
	saved = appendNumber(append(saved, nextPart), uint64(s.last)+1)
	saved = appendNumber(append(saved, timePart), s.time)
	return string(saved)
}

// Load tells the store that is saved as these bytes.
func Load(saved string) (Store, api.Errno) {
	var s Store
	r := reader{saved}
	for r.rest != "" {
		if !s.loadPart(&r) {
			return Store{}, api.ErrBytes
		}
	}
	// Bytes that are cut short, or whose parts are not in order, make a store too, but none that is saved as they are.
	if s.Save() != saved {
		return Store{}, api.ErrBytes
	}
	return s, api.OK
}

// entries tells all versions by their numbers: in that order loading them is making them anew.
func (s *Store) entries() []entry {
	var all []entry
	for key, history := range s.histories.From("") {
		for _, v := range history {
			all = append(all, entry{key, v})
		}
	}
	slices.SortFunc(all, func(a, b entry) int { return cmp.Compare(a.Number, b.Number) })
	return all
}

func appendEntry(saved []byte, e entry) []byte {
	if e.Marker {
		saved = appendNumber(append(saved, markerPart), uint64(e.Number))
		return appendText(saved, e.key)
	}
	saved = appendNumber(append(saved, versionPart), uint64(e.Number))
	return appendText(appendText(saved, e.key), e.Body)
}

func appendNumber(saved []byte, n uint64) []byte {
	for i := range numberWidth {
		saved = append(saved, byte(n>>(8*(numberWidth-1-i))))
	}
	return saved
}

// appendText presumes a key or a body: their lengths fit into a byte.
func appendText(saved []byte, text string) []byte {
	return append(append(saved, byte(len(text))), text...)
}

// loadPart makes anew what the next part tells, if that may be.
func (s *Store) loadPart(r *reader) bool {
	switch r.number(partWidth) {
	case versionPart:
		number, key, body := r.number(numberWidth), r.text(), r.text()
		return s.passTo(number) && isMade(s.Put(key, body))
	case markerPart:
		number, key := r.number(numberWidth), r.text()
		return s.passTo(number) && isMade(s.Drop(key))
	case nextPart:
		return s.passTo(r.number(numberWidth))
	case timePart:
		s.time = r.number(numberWidth)
		return true
	}
	return false
}

func isMade(_ int, code api.Errno) bool { return code == api.OK }

// passTo makes the number the one that will be given next, unless it was given already.
func (s *Store) passTo(number uint64) bool {
	if number <= uint64(s.last) || number > math.MaxInt+1 {
		return false
	}
	s.last = int(number - 1)
	return true
}

// reader goes through saved bytes. Where they end too early it tells what is left: Load sees that.
type reader struct {
	rest string
}

func (r *reader) take(length int) string {
	length = min(length, len(r.rest))
	taken := r.rest[:length]
	r.rest = r.rest[length:]
	return taken
}

func (r *reader) number(width int) uint64 {
	var n uint64
	for _, b := range []byte(r.take(width)) {
		n = n<<8 | uint64(b)
	}
	return n
}

func (r *reader) text() string { return r.take(int(r.number(lengthWidth))) }
