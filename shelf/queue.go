package shelf

// queue is groups in the order in which they came. They are linked, so that any one is removed without a search.
type queue struct {
	first, last *group
	length      int
}

func (q *queue) add(g *group) {
	g.before = q.last
	if q.last == nil {
		q.first = g
	} else {
		q.last.after = g
	}
	q.last = g
	q.length++
}

func (q *queue) remove(g *group) {
	if g.before == nil {
		q.first = g.after
	} else {
		g.before.after = g.after
	}
	if g.after == nil {
		q.last = g.before
	} else {
		g.after.before = g.before
	}
	q.length--
}
