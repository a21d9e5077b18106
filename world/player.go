package world

import (
	"iter"
	"slices"

	"plover/api"
)

// levels are the last Vals that came, by their Kinds.
type levels [api.LastIn + 1]uint8

// Player plays a script. A copy of one goes on by itself: what they share stays as it is.
type Player struct {
	levels
	script []api.Input
	taken  int
	cycles int
	// made tells a player of no inputs from one that New did not make.
	made bool
}

// New answers a player ahead of the first cycle; nil, if l is no script.
func New(l []api.Input) *Player {
	if !isScript(l) {
		return nil
	}
	return &Player{script: slices.Clone(l), made: true}
}

// Next goes on by a cycle, and answers what there is at it.
func (p *Player) Next() Now {
	if p == nil || !p.made {
		return Now{}
	}
	p.cycles++
	return p.upTo(p.cycles)
}

// Cycle answers how many cycles there were.
func (p *Player) Cycle() int {
	if p == nil {
		return 0
	}
	return p.cycles
}

// upTo takes the inputs that come by a cycle, and answers what there is at it.
func (p *Player) upTo(c int) Now {
	isByte := false
	for x := range played(p.script, p.taken) {
		if x.At > c {
			break
		}
		p.taken++
		p.come(x)
		// A mask of the same cycle comes behind its byte.
		isByte = isByte || x.Kind == api.InByte && x.At == c
	}
	return p.now(isByte)
}

// played tells a script's inputs, one behind the other, from a place on.
func played(script []api.Input, from int) iter.Seq[api.Input] {
	return func(yield func(api.Input) bool) {
		for _, x := range script[from:] {
			if !yield(x) {
				return
			}
		}
	}
}

// come keeps what an input brings.
func (v *levels) come(x api.Input) {
	v[x.Kind] = x.Val
}

// now answers what there is by the levels; the byte only, if it came at this very cycle.
func (v *levels) now(isByte bool) Now {
	now := Now{Pins: v[api.InPins], Mask: v[api.InMask], IsByte: isByte}
	if isByte {
		now.Byte = v[api.InByte]
	}
	return now
}
