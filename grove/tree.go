package grove

import "iter"

// tree has values by their keys. It is not kept in balance: at its deepest it has one node an order, and a book has few of these.
type tree[K, V any] struct {
	ahead func(a, b K) bool
	root  *node[K, V]
}

// node is a key of a tree.
type node[K, V any] struct {
	key         K
	value       V
	left, right *node[K, V] // whose keys are ahead of its own, and behind it
}

// spot tells where a key's node hangs, or would hang.
func (t *tree[K, V]) spot(key K) **node[K, V] {
	at := &t.root
down:
	n := *at
	switch {
	case n != nil && t.ahead(key, n.key):
		at = &n.left
		goto down
	case n != nil && t.ahead(n.key, key):
		at = &n.right
		goto down
	}
	return at
}

// get tells the value of a key, the plain one if there is none.
func (t *tree[K, V]) get(key K) (value V) {
	if n := *t.spot(key); n != nil {
		return n.value
	}
	return value
}

// put gives a key its value.
func (t *tree[K, V]) put(key K, value V) {
	at := t.spot(key)
	if *at == nil {
		*at = &node[K, V]{key: key}
	}
	(*at).value = value
}

// drop takes a key away.
func (t *tree[K, V]) drop(key K) {
	at := t.spot(key)
	if n := *at; n != nil {
		*at = join(n.left, n.right)
	}
}

// first tells the value of the key that is ahead of all others.
func (t *tree[K, V]) first() (value V, there bool) {
	n := t.root
	if n == nil {
		return value, false
	}
down:
	if n.left != nil {
		n = n.left
		goto down
	}
	return n.value, true
}

// each goes over a tree, the first key first.
func (t *tree[K, V]) each() iter.Seq2[K, V] {
	return func(yield func(K, V) bool) { t.root.walk(yield) }
}

// walk goes over what hangs at n, and tells whether it is to go on.
func (n *node[K, V]) walk(yield func(K, V) bool) bool {
	return n == nil || n.left.walk(yield) && yield(n.key, n.value) && n.right.walk(yield)
}

// join puts two together, where all keys of the left one are ahead of those of the right one.
func join[K, V any](left, right *node[K, V]) *node[K, V] {
	at := &left
down:
	if *at != nil {
		at = &(*at).right
		goto down
	}
	*at = right
	return left
}
