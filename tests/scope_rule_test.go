package tests

import (
	"slices"

	"loop.example/g00115/impl"
)

// Chapter 12 by other means: each telling and each use of a name has a key, by which all of them are put in the order of walking through;
// the place of a use is then looked for among all that stand ahead of it.

// scopes: all that the chapter answers of a tree.
type scopes struct {
	places      []impl.Place
	of          []int
	fault, node int
	captures    map[int][]int
}

// naming: one name that is told or used.
type naming struct {
	node  int
	name  string
	tells bool
	// Parts are numbered on the way from the last block to the node; then comes the naming's own number among its node's parts.
	key []int
	// The blocks and the functions that are open there, from the program's on; a name that is told is of the last of each.
	blocks, funs []int
}

// spot: where a node stands.
type spot struct{ key, blocks, funs []int }

// spotsOf: where each node of a right tree stands; the blocks and functions count the node itself.
func spotsOf(tree []impl.Node) []spot {
	spots := make([]spot, len(tree))
	last := len(tree) - 1
	spots[last] = spot{blocks: []int{last}, funs: []int{last}}
	// What a node is made of stands ahead of it: from the last one on, each is known when it is come to.
	for at := last; at >= 0; at-- {
		parts, _ := rolesOf(tree[at])
		for slot, part := range parts {
			s := spot{append(slices.Clone(spots[at].key), 10*slot+10), slices.Clone(spots[at].blocks), slices.Clone(spots[at].funs)}
			switch tree[part].Kind {
			case impl.NodeBlock:
				s.blocks = append(s.blocks, part)
			case impl.NodeFun:
				s.funs = append(s.funs, part)
			}
			spots[part] = s
		}
	}
	return spots
}

// namingsOf: the namings of a right tree, in the order of walking through. A node's parts have the numbers 10, 20 and so on:
// a name that is told behind the first has a number between these, one that its node has as it is come to has one ahead of all.
func namingsOf(tree []impl.Node) []naming {
	var out []naming
	for at, s := range spotsOf(tree) {
		node := tree[at]
		number, tells, blocks := 0, true, s.blocks
		switch {
		case node.Kind == impl.NodeName || node.Kind == impl.NodeSet:
			tells = false
		case node.Kind == impl.NodeLet && node.B == 1:
		case node.Kind == impl.NodeLet:
			number = 15
		case node.Kind == impl.NodeTry:
			number, blocks = 15, append(slices.Clone(blocks), node.B)
		case node.Kind == impl.NodeFun:
			blocks = append(slices.Clone(blocks), node.A)
		default:
			continue
		}
		for i, name := range node.Names {
			out = append(out, naming{at, name, tells, append(slices.Clone(s.key), number, i), blocks, s.funs})
		}
	}
	slices.SortFunc(out, func(a naming, b naming) int { return slices.Compare(a.key, b.key) })
	return out
}

func lastOf(list []int) int { return list[len(list)-1] }

// lastTold: the last one of those that tell the name in a block of these; -1 when there is none.
func lastTold(ahead []naming, name string, blocks []int) int {
	for i := len(ahead) - 1; i >= 0; i-- {
		if ahead[i].tells && ahead[i].name == name && slices.Contains(blocks, lastOf(ahead[i].blocks)) {
			return i
		}
	}
	return -1
}

func scopesByRule(tree []impl.Node) scopes {
	if !treeByRule(tree) {
		return scopes{fault: 3}
	}
	out := scopes{of: slices.Repeat([]int{-1}, len(tree)), node: -1, captures: map[int][]int{}}
	namings := namingsOf(tree)
	placeOf := map[int]int{}
	for i, n := range namings {
		if n.tells {
			if lastTold(namings[:i], n.name, n.blocks[len(n.blocks)-1:]) >= 0 {
				return scopes{fault: 2, node: n.node}
			}
			placeOf[i] = len(out.places)
			out.places = append(out.places, impl.Place{Fun: lastOf(n.funs), Name: n.name, Let: n.node})
		} else if told := lastTold(namings[:i], n.name, n.blocks); told >= 0 {
			placeOf[i] = placeOf[told]
		} else {
			return scopes{fault: 1, node: n.node}
		}
		if tree[n.node].Kind != impl.NodeFun {
			out.of[n.node] = placeOf[i]
		}
	}
	for i, n := range namings {
		place := &out.places[placeOf[i]]
		of := slices.Index(n.funs, place.Fun)
		for _, fun := range n.funs[of+1:] {
			place.Shared = true
			if !slices.Contains(out.captures[fun], placeOf[i]) {
				out.captures[fun] = append(out.captures[fun], placeOf[i])
			}
		}
	}
	return out
}

// namesSeen: the names that a node may use where it stands, ascending.
func namesSeen(tree []impl.Node, node int) []string {
	namings := namingsOf(tree)
	at := slices.IndexFunc(namings, func(n naming) bool { return n.node == node })
	var out []string
	for _, n := range namings[:at] {
		if lastTold(namings[:at], n.name, namings[at].blocks) >= 0 {
			out = append(out, n.name)
		}
	}
	slices.Sort(out)
	return slices.Compact(out)
}
