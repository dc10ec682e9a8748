package sat

// order of variables that are open: those of more weight first, and of as much weight those of lesser numbers. (Some that are set may be among them.)
type order struct {
	heap    []int32 // none of them comes ahead of the one at half its place
	places  []int32 // of each variable in heap, or none
	weights []uint64
	weight  uint64 // what a variable gains by being of use
}

const (
	firstWeight = 1 << 24
	mostWeight  = 1 << 60
)

func newOrder(n int) order {
	o := order{heap: make([]int32, n), places: make([]int32, n), weights: make([]uint64, n), weight: firstWeight}
	for v := range n {
		o.put(int32(v), v)
	}
	return o
}

func (o *order) ahead(v, w int32) bool {
	return o.weights[v] > o.weights[w] || o.weights[v] == o.weights[w] && v < w
}

func (o *order) put(v int32, at int) {
	o.heap[at] = v
	o.places[v] = int32(at)
}

// rise from a place, as far as the variable there comes ahead of others.
func (o *order) rise(at int) {
	v := o.heap[at]
	for at > 0 {
		up := (at - 1) / 2
		if !o.ahead(v, o.heap[up]) {
			break
		}
		o.put(o.heap[up], at)
		at = up
	}
	o.put(v, at)
}

// sink from a place, as far as others come ahead of the variable there.
func (o *order) sink(at int) {
	v := o.heap[at]
	for {
		down := 2*at + 1
		if down+1 < len(o.heap) && o.ahead(o.heap[down+1], o.heap[down]) {
			down++
		}
		if down >= len(o.heap) || !o.ahead(o.heap[down], v) {
			break
		}
		o.put(o.heap[down], at)
		at = down
	}
	o.put(v, at)
}

func (o *order) push(v int32) {
	if o.places[v] == none {
		o.heap = append(o.heap, v)
		o.rise(len(o.heap) - 1)
	}
}

func (o *order) pop() int32 {
	v, last := o.heap[0], len(o.heap)-1
	o.heap[0] = o.heap[last]
	o.heap = o.heap[:last]
	if last > 0 {
		o.sink(0)
	}
	o.places[v] = none
	return v
}

// bump a variable that was of use.
func (o *order) bump(v int32) {
	o.weights[v] += o.weight
	if o.weights[v] > mostWeight {
		o.lighten()
	}
	if o.places[v] != none {
		o.rise(int(o.places[v]))
	}
}

// lighten all weights alike. Those that become one weight are put anew, since numbers count then.
func (o *order) lighten() {
	const by = 32
	for v := range o.weights {
		o.weights[v] >>= by
	}
	o.weight >>= by
	for i := range len(o.heap) {
		o.rise(i)
	}
}

// fade: what comes weighs more than what was.
func (o *order) fade() { o.weight += o.weight / 16 }
