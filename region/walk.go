package region

import "pane/api"

// Combine gives the points that the kind says, of those of a and of b. It is one walk over both: from edge to edge
// downwards, and in each strip between two such edges from edge to edge to the right. An odd count of edges passed
// means that the walk is inside a band or a span.
func Combine(kind int, a Region, b Region) Region {
	var out Region
	i, j := 0, 0
bands:
	for {
		top := min(a.level(i), b.level(j))
		if top == beyond {
			break bands
		}
		i, j = a.passLevels(i, top), b.passLevels(j, top)
		bottom := min(a.level(i), b.level(j))
		s, t := a.row(i), b.row(j)
		var row []span
		m, n, from, inside := 0, 0, 0, false
	spans:
		for {
			x := min(edge(s, m), edge(t, n))
			if x == beyond {
				out.add(band{top: top, bottom: bottom, spans: row})
				continue bands
			}
			m, n = passEdge(s, m, x), passEdge(t, n, x)
			now := keeps(kind, m%2 == 1, n%2 == 1)
			if now == inside {
				continue spans
			}
			if inside {
				row = append(row, span{from: from, to: x})
			}
			from, inside = x, now
		}
	}
	return out
}

// keeps tells whether the kind takes a point that is in the first region or not, and in the second or not.
func keeps(kind int, first bool, second bool) bool {
	switch kind {
	case api.Union:
		return first || second
	case api.Common:
		return first && second
	case api.Less:
		return first && !second
	}
	return first != second
}

// level gives the y of the k-th edge of the region's bands: a top if k is even, else a bottom.
func (r Region) level(k int) int {
	if k >= 2*len(r.bands) {
		return beyond
	}
	if k%2 == 0 {
		return r.bands[k/2].top
	}
	return r.bands[k/2].bottom
}

// passLevels counts on from k over the edges at y. There are two of them where one band touches the next.
func (r Region) passLevels(k int, y int) int {
	for k < 2*len(r.bands) && r.level(k) == y {
		k++
	}
	return k
}

// row gives the spans between the last edge passed and the next one, k being how many were passed.
func (r Region) row(k int) []span {
	if k%2 == 0 {
		return nil
	}
	return r.bands[k/2].spans
}

// edge gives the x of the k-th edge of the spans: where one begins if k is even, else where it ends.
func edge(l []span, k int) int {
	if k >= 2*len(l) {
		return beyond
	}
	if k%2 == 0 {
		return l[k/2].from
	}
	return l[k/2].to
}

// passEdge counts on from k over the edge at x, if there is one.
func passEdge(l []span, k int, x int) int {
	if edge(l, k) == x {
		return k + 1
	}
	return k
}
