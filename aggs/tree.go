package aggs

// tree holds items in an order, so that one is found, comes and goes in as many steps as the tree is high, and nothing is kept of those that went. Of where an item stands the tree knows nothing: each call brings a way that leads there.
type tree[T any] struct {
	root *node[T]
	size int
}

// node is an item with those ahead of it (left) and those behind it (right): as high, or one the higher.
type node[T any] struct {
	item        T
	left, right *node[T]
	height      int
}

// way tells where what is looked for stands: below 0 ahead of the item, above 0 behind it, 0: the item is it.
type way[T any] func(item T) int

// seek answers the item to which the way leads; nil, if there is none.
func (t *tree[T]) seek(to way[T]) *T {
	for n := t.root; n != nil; {
		switch c := to(n.item); {
		case c < 0:
			n = n.left
		case c > 0:
			n = n.right
		default:
			return &n.item
		}
	}
	return nil
}

// add lays an item where the way leads; none must be there.
func (t *tree[T]) add(to way[T], item T) {
	t.root = t.root.with(to, item)
	t.size++
}

// remove takes away the item to which the way leads; one must be there.
func (t *tree[T]) remove(to way[T]) {
	t.root = t.root.without(to)
	t.size--
}

// first answers the item ahead of all others; nil, if there is none.
func (t *tree[T]) first() *T {
	if t.root == nil {
		return nil
	}
	n := t.root
	for n.left != nil {
		n = n.left
	}
	return &n.item
}

// last answers the item behind all others; nil, if there is none.
func (t *tree[T]) last() *T {
	if t.root == nil {
		return nil
	}
	n := t.root
	for n.right != nil {
		n = n.right
	}
	return &n.item
}

func (n *node[T]) with(to way[T], item T) *node[T] {
	if n == nil {
		return &node[T]{item: item, height: 1}
	}
	if to(n.item) < 0 {
		n.left = n.left.with(to, item)
	} else {
		n.right = n.right.with(to, item)
	}
	return n.balanced()
}

func (n *node[T]) without(to way[T]) *node[T] {
	switch c := to(n.item); {
	case c < 0:
		n.left = n.left.without(to)
	case c > 0:
		n.right = n.right.without(to)
	case n.left == nil:
		return n.right
	case n.right == nil:
		return n.left
	default:
		n.right, n.item = n.right.parted()
	}
	return n.balanced()
}

// parted answers the node without its first item, and that item.
func (n *node[T]) parted() (*node[T], T) {
	if n.left == nil {
		return n.right, n.item
	}
	left, item := n.left.parted()
	n.left = left
	return n.balanced(), item
}

// balanced answers the node with neither side more than one higher than the other, after one of them grew or shrank by one.
func (n *node[T]) balanced() *node[T] {
	switch lean := n.left.high() - n.right.high(); {
	case lean > 1:
		if n.left.left.high() < n.left.right.high() {
			n.left = n.left.turnedLeft()
		}
		return n.turnedRight()
	case lean < -1:
		if n.right.right.high() < n.right.left.high() {
			n.right = n.right.turnedRight()
		}
		return n.turnedLeft()
	}
	return n.measured()
}

func (n *node[T]) turnedRight() *node[T] {
	top := n.left
	n.left, top.right = top.right, n
	n.measured()
	return top.measured()
}

func (n *node[T]) turnedLeft() *node[T] {
	top := n.right
	n.right, top.left = top.left, n
	n.measured()
	return top.measured()
}

func (n *node[T]) measured() *node[T] {
	n.height = 1 + max(n.left.high(), n.right.high())
	return n
}

func (n *node[T]) high() int {
	if n == nil {
		return 0
	}
	return n.height
}
