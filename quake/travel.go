package quake

import (
	"math/bits"
	"sort"

	"tidewall/api"
)

// Travel returns how long waves take from a source in a cell to a station in a cell.
func Travel(m Model, from, to int) (api.Span, api.Errno) {
	if e := checkWay(m, from, to); e != api.OK {
		return api.Span{}, e
	}
	return m.travel(m.distance(from, to)), api.OK
}

// Strengths returns how strong a quake of a class in a cell is at a station in a cell.
func Strengths(m Model, class, from, to int) (api.Span, api.Errno) {
	if e := checkWay(m, from, to); e != api.OK {
		return api.Span{}, e
	}
	if !isClass(class) {
		return api.Span{}, api.ErrRange
	}
	return m.strength(class, m.distance(from, to)), api.OK
}

func checkWay(m Model, from, to int) api.Errno {
	if e := Check(m); e != api.OK {
		return e
	}
	if !m.hasCell(from) || !m.hasCell(to) {
		return api.ErrNone
	}
	return api.OK
}

func (m Model) distance(from, to int) api.Span {
	columns, rows := m.apart(from%m.Wide, to%m.Wide), m.apart(from/m.Wide, to/m.Wide)
	return api.Span{
		Lo: rootDown(columns.Lo*columns.Lo + rows.Lo*rows.Lo + m.Depth.Lo*m.Depth.Lo),
		Hi: rootUp(columns.Hi*columns.Hi + rows.Hi*rows.Hi + m.Depth.Hi*m.Depth.Hi),
	}
}

// apart returns how far what is in two columns, or two rows, is apart along them: it can be at the near sides of its cells, or at the far ones.
func (m Model) apart(a, b int) api.Span {
	cells := max(a-b, b-a)
	return api.Span{Lo: max(cells-1, 0) * m.Size, Hi: (cells + 1) * m.Size}
}

func (m Model) travel(distance api.Span) api.Span {
	return api.Span{
		Lo: 1000 * distance.Lo / m.Speed.Hi,
		Hi: (1000*distance.Hi + m.Speed.Lo - 1) / m.Speed.Lo,
	}
}

func (m Model) strength(class int, distance api.Span) api.Span {
	return api.Span{
		Lo: 100*class - fall(distance.Hi) - m.Spread,
		Hi: 100*class - fall(distance.Lo) + m.Spread,
	}
}

// fall returns by how much a quake is weaker at a distance.
func fall(distance int) int {
	doublings := bits.Len(uint(distance/1000+1)) - 1
	return 30 * doublings
}

// beyond is above all distances: they are at most the root of twice (24 * 10,000)^2 and 700,000^2.
const beyond = 1 << 20

func rootDown(n int) int {
	return sort.Search(beyond, func(root int) bool { return root*root > n }) - 1
}

func rootUp(n int) int {
	return sort.Search(beyond, func(root int) bool { return root*root >= n })
}
