package zset

import (
	"math/bits"

	"intaglio/api"
)

// levels is on how many levels a node may have links. On each one there are some four times fewer nodes than on the one below: the highest one is enough for 2^31.
const levels = 16

// What a member's bytes are mixed by: odd numbers of many ones and noughts, so that the highest bits hang on every byte.
const (
	mixFrom = 0x9ae16a3b2f90404f
	mixBy   = 0x9e3779b97f4a7c15
)

// link goes on from a node.
type link struct {
	to     *node // nil: no node behind has links on this level
	places int   // how many nodes it goes on; if to is nil, as many as there are behind
}

// node is a member with its score, and links to nodes behind it.
type node struct {
	api.Score
	links []link
}

// height is on how many levels a member has links. Its bytes alone say it, so a set has the same links whatever befell it.
func height(member string) int {
	mix := uint64(mixFrom)
	for i := range len(member) {
		mix = (mix ^ uint64(member[i])) * mixBy
	}
	return min(1+bits.LeadingZeros64(mix)/2, levels)
}

// newNode is a node whose links go nowhere yet.
func newNode(s api.Score) *node {
	n := &node{Score: s}
	n.links = make([]link, height(n.Member))
	return n
}

// stop is a node, and how many nodes there are up to it, itself among them.
type stop struct {
	node  *node
	count int
}

// part tells whether a member, ahead of which so many stand, is in a part of a set.
type part func(s api.Score, place int) bool

// ahead is the part that stands ahead of a member with a score.
func ahead(of api.Score) part {
	return func(s api.Score, _ int) bool { return Less(s, of) }
}

// walk goes through a part with which the nodes begin, and tells on each level the last node of it.
func walk(head *node, within part) [levels]stop {
	var stops [levels]stop
	at := stop{node: head}
	for i := range levels {
		level := levels - 1 - i
		for {
			l := at.node.links[level]
			if l.to == nil || !within(l.to.Score, at.count+l.places-1) {
				break
			}
			at = stop{l.to, at.count + l.places}
		}
		stops[level] = at
	}
	return stops
}

// insert puts in a member that is not there.
func insert(head *node, s api.Score) {
	stops := walk(head, ahead(s))
	n := newNode(s)
	for level, at := range stops {
		l := &at.node.links[level]
		l.places++
		if level < len(n.links) {
			first := stops[0].count + 1 - at.count
			n.links[level] = link{l.to, l.places - first}
			*l = link{n, first}
		}
	}
}

// remove takes out a member that is there.
func remove(head *node, s api.Score) {
	stops := walk(head, ahead(s))
	n := stops[0].node.links[0].to
	for level, at := range stops {
		l := &at.node.links[level]
		l.places--
		if level < len(n.links) {
			*l = link{n.links[level].to, l.places + n.links[level].places}
		}
	}
}
