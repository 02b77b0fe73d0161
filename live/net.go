package live

import (
	"loanword/api"
	"loanword/bits"
)

const wordBits = 64

// net is what of a graph makes locals live. Its rows are of locals, one a point: so what stays live from a point to another one goes over word by word.
type net struct {
	locals       int
	next, before [][]int
	uses         []api.Row
	ends         func(q int) (local int, ok bool)
}

// netOf answers the net of a graph in a unit that may be.
func netOf(g api.Graph) net {
	l := points(g.Points)
	n := net{locals: len(g.Locals), before: make([][]int, len(l)), uses: emptyRows(len(l), len(g.Locals)), ends: l.ends}
	for q, p := range l {
		n.next = append(n.next, l.successors(q))
		for _, to := range n.next[q] {
			n.before[to] = append(n.before[to], q)
		}
		for local := range point(p).uses {
			put(n.uses[q], local)
		}
	}
	return n
}

// live answers of each point the locals that are live there. The rows only grow, and each time one does, what is ahead of it is work again. The order of layer 12, taken from behind, comes to most points when what lies behind them has grown already; the points that are not in it wait below it.
func (n net) live(order []int) []api.Row {
	rows := emptyRows(len(n.next), n.locals)
	var work []int
	for q := range n.next {
		work = append(work, q)
	}
	work = append(work, order...)
working:
	for len(work) > 0 {
		q := work[len(work)-1]
		work = work[:len(work)-1]
		must := n.must(rows, q)
		for k, word := range must.Words {
			if word != rows[q].Words[k] {
				rows[q] = must
				work = append(work, n.before[q]...)
				continue working
			}
		}
	}
	return rows
}

// must answers the locals that are live at q, if at its successors those are that the rows say.
func (n net) must(rows []api.Row, q int) api.Row {
	must, _ := bits.New(n.locals)
	for _, to := range n.next[q] {
		for k, word := range rows[to].Words {
			must.Words[k] |= word
		}
	}
	if local, ok := n.ends(q); ok {
		must.Words[local/wordBits] &^= 1 << (local % wordBits)
	}
	for k, word := range n.uses[q].Words {
		must.Words[k] |= word
	}
	return must
}

// musts answers of each local the points that its row must have, if these are the locals' rows.
func (n net) musts(rows []api.Row) []api.Row {
	at := turned(rows, len(n.next))
	var musts []api.Row
	for q := range at {
		musts = append(musts, n.must(at, q))
	}
	return turned(musts, n.locals)
}

// nearest answers the point that uses the local to which the shortest way leads from another one, on which it does not end ahead of that; of several such ways the first one by number. It goes to nearer points first, and among those that are equally near to the one to which the first way leads.
func (n net) nearest(local, from int) (use int, ok bool) {
	came := make([]bool, len(n.next))
	came[from] = true
	queue := []int{from}
	for len(queue) > 0 {
		q := queue[0]
		queue = queue[1:]
		if bits.Get(n.uses[q], local) {
			return q, true
		}
		if n.isEnd(local, q) {
			continue
		}
		for _, to := range n.next[q] {
			if !came[to] {
				came[to] = true
				queue = append(queue, to)
			}
		}
	}
	return 0, false
}

// endings answers the points at which the local ends.
func (n net) endings(local int) []int {
	var l []int
	for q := range n.next {
		if n.isEnd(local, q) {
			l = append(l, q)
		}
	}
	return l
}

func (n net) isEnd(local, q int) bool {
	ended, ok := n.ends(q)
	return ok && ended == local
}

// emptyRows answers so many rows of that width without bits.
func emptyRows(count, width int) []api.Row {
	var l []api.Row
	for range count {
		r, _ := bits.New(width)
		l = append(l, r)
	}
	return l
}

// turned answers rows of which the row k has the bit i where the row i of these, all of that width, has the bit k.
func turned(rows []api.Row, width int) []api.Row {
	l := emptyRows(width, len(rows))
	for i, r := range rows {
		for k := range bits.Each(r) {
			put(l[k], i)
		}
	}
	return l
}

func put(r api.Row, k int) { r.Words[k/wordBits] |= 1 << (k % wordBits) }
