package content

import (
	"slices"

	"marquee/api"
)

// spec says of each kind of view whether it may be of rows with as many columns.
type spec api.ViewSpec

func (s spec) isNone(int) bool { return false }

func (s spec) isBare(int) bool { return s.N == 0 && s.isPlain() }

func (s spec) isOfLength(int) bool { return s.isUpTo(api.MaxSize) && s.isPlain() }

func (s spec) isOfTime(int) bool { return s.isUpTo(api.MaxTime) && s.isPlain() }

func (s spec) isKeyed(columns int) bool {
	return s.N == 0 && !s.Desc && s.arePlaces(columns)
}

func (s spec) isSorted(columns int) bool {
	return s.isUpTo(api.MaxSize) && len(s.Cols) == 1 && s.arePlaces(columns)
}

func (s spec) isPlain() bool { return len(s.Cols) == 0 && !s.Desc }

func (s spec) isUpTo(most int) bool { return 1 <= s.N && s.N <= most }

// arePlaces tells whether Cols are unlike places of columns, one at least. (So they are no more than columns.)
func (s spec) arePlaces(columns int) bool {
	if len(s.Cols) == 0 {
		return false
	}
	rising := slices.Sorted(slices.Values(s.Cols))
	if rising[0] < 0 || rising[len(rising)-1] >= columns {
		return false
	}
	return len(slices.Compact(rising)) == len(s.Cols)
}
