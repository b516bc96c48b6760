package cert

import (
	"stockade/api"
	"stockade/flow"
)

// points is a list of them, and by places the numbers of those that stand there.
type points struct {
	list []flow.Out
	at   map[int][]int
}

func placed(l []flow.Out) points {
	p := points{list: l, at: map[int][]int{}}
	for k := range l {
		at := l[k].At
		p.at[at] = append(p.at[at], k)
	}
	return p
}

// cover answers whether one of the points covers x.
func (p points) cover(x flow.Out) bool {
	for _, k := range p.at[x.At] {
		if Covers(p.list[k], x) {
			return true
		}
	}
	return false
}

// goOn tells what is wrong with x as one of the points: the instruction there may trap, or what it makes of x is not among what they cover.
func (p points) goOn(img api.Image, x flow.Out) api.Errno {
	l, e := flow.Step(img, x.At, x.S)
	if e != api.OK {
		return e
	}
	for k := range l {
		if !p.cover(l[k]) {
			return api.ErrNone
		}
	}
	return api.OK
}

// needless answers whether the point k is covered by another one: of two that cover one another only the first one is needed.
func (p points) needless(k int) bool {
	x := p.list[k]
	for _, j := range p.at[x.At] {
		if j != k && Covers(p.list[j], x) && (j < k || !Covers(x, p.list[j])) {
			return true
		}
	}
	return false
}
