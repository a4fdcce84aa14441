package reg

import "eddy/api"

// edge tells whether these are unlike numbers of nodes.
func edge(a, b int) bool { return a != b && isNode(a) && isNode(b) }

func isNode(n int) bool { return n >= 0 && n < api.MaxNodes }

// isEnd tells whether a node is one of the two.
func isEnd(n, a, b int) bool { return n == a || n == b }

func inRange(flow int64) bool { return flow >= -api.MaxFlow && flow <= api.MaxFlow }

// along is what goes from a node to its peer, told as a flow, which goes from the lower to the higher one; and as well
// a flow, told as what goes from the node to its peer.
func along(x int64, node, peer int) int64 {
	if node < peer {
		return x
	}
	return -x
}
