package verify

import (
	"stockade/api"
	"stockade/flow"
	"stockade/state"
)

// search is how far the ways of a program have been gone.
type search struct {
	img  api.Image
	kept []flow.Out
	at   map[int][]int // by places: which of those that are kept stand there
	pile [][]flow.Out  // lists, none of them empty: the first point of the last one is topmost
}

func newSearch(img api.Image) *search {
	s := &search{img: img, at: map[int][]int{}}
	s.lay([]flow.Out{{At: 0, S: state.Begin()}})
	return s
}

// lay lays points on the pile, the first one topmost.
func (s *search) lay(l []flow.Out) {
	if len(l) > 0 {
		s.pile = append(s.pile, l)
	}
}

// take takes the topmost point off the pile.
func (s *search) take() flow.Out {
	last := len(s.pile) - 1
	l := s.pile[last]
	s.pile = s.pile[:last:last] // with its room, so that no list stays behind that is done with
	s.lay(l[1:])
	return l[0]
}

// goOn goes all ways to their ends, or tells what is wrong, and where.
func (s *search) goOn() (int, api.Errno) {
	for len(s.pile) > 0 {
		p := s.take()
		if s.covers(p) {
			continue
		}
		if e := s.keep(p); e != api.OK {
			return p.At, e
		}
	}
	return 0, api.OK
}

// covers answers whether a point that is kept covers p.
func (s *search) covers(p flow.Out) bool {
	for _, k := range s.at[p.At] {
		if state.In(p.S, s.kept[k].S) {
			return true
		}
	}
	return false
}

// keep keeps a point, if there is room for it, and lays what is behind it on the pile.
func (s *search) keep(p flow.Out) api.Errno {
	if len(s.kept) == api.MaxStates || len(s.at[p.At]) == api.MaxWays {
		return api.ErrMany
	}
	s.at[p.At] = append(s.at[p.At], len(s.kept))
	s.kept = append(s.kept, p)
	l, e := flow.Step(s.img, p.At, p.S)
	s.lay(l)
	return e
}
