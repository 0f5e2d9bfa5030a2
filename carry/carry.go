// Package carry tells what is carried by who has a giving under way (layers 18
// to 21).
package carry

import "hackney/give"

// Of: the id of a giving, as long as it is nowhere else; else 0.
func Of(g give.Give) uint64 {
	switch g.State {
	case "offer", "free", "close":
		return g.ID
	}
	return 0
}
