package sweep

import "taskmill/api"

// marker goes through a heap. An object is grey while it stands in the line, and black if it is neither white nor grey.
type marker struct {
	api.Heap
	white []bool
	line  []int
}

// newMarker is a marker that has met what the registers hold, and nothing else.
func newMarker(h api.Heap) *marker {
	m := &marker{Heap: h, white: make([]bool, len(h.Objects))}
	for object := range m.white {
		m.white[object] = true
	}
	m.shade(m.Roots...)
	return m
}

// shade makes those grey that are white.
func (m *marker) shade(objects ...int) {
	for _, object := range objects {
		if object != none && m.white[object] {
			m.white[object] = false
			m.line = append(m.line, object)
		}
	}
}

// mark goes through the first grey object, if there is one.
func (m *marker) mark() {
	if len(m.line) == 0 {
		return
	}
	first := m.line[0]
	m.line = m.line[1:]
	m.shade(m.Objects[first]...)
}

// finish marks until none is grey.
func (m *marker) finish() {
	for len(m.line) > 0 {
		m.mark()
	}
}

// whites answers the white objects, rising.
func (m *marker) whites() []int {
	var list []int
	for object, white := range m.white {
		if white {
			list = append(list, object)
		}
	}
	return list
}
