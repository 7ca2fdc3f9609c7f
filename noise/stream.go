package noise

import (
	"math"

	"tarnfell/api"
	"tarnfell/field"
)

// Stream is described in doc/02-noise.md, P33.
type Stream struct{ state uint32 }

// NewStream is described in doc/02-noise.md, P33.
func NewStream(seed uint32, x, y int) *Stream {
	// The state 0 would lead to 0 for ever.
	return &Stream{state: max(Hash(seed, x, y, forStream), 1)}
}

// Next is described in doc/02-noise.md, P33.
func (s *Stream) Next() uint32 {
	s.state ^= s.state << 13
	s.state ^= s.state >> 17
	s.state ^= s.state << 5
	return s.state
}

// Below is described in doc/02-noise.md, P33.
func (s *Stream) Below(n int) (int, api.Errno) {
	if !field.Within(n, 1, math.MaxInt32) {
		return 0, api.ErrRange
	}
	return int(uint64(s.Next()) * uint64(n) >> 32), api.OK
}

// Unit is described in doc/02-noise.md, P33.
func (s *Stream) Unit() float32 { return Unit(s.Next()) }
