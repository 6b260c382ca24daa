package link

import "trefoil/frame"

// starts are those of both parties, as one of them knows them.
type starts struct {
	own  uint32
	peer uint32 // the other one's; 0: it isn't known
}

// bare makes a frame of a kind, from the own start to the other one's, without anything else.
func (s starts) bare(kind int) frame.Frame {
	return frame.Frame{Kind: kind, Own: s.own, Peer: s.peer}
}

// isPast tells whether a frame is of an earlier start than the one that is known.
func (s starts) isPast(f frame.Frame) bool { return f.Own < s.peer }

// isMeant tells whether a frame is for the own start.
func (s starts) isMeant(f frame.Frame) bool { return f.Peer == s.own }
