package model

import (
	"cmp"

	"chandlery/api"
)

// inOrder compares two items by their order: those of packages stand package by package, behind them each Kind for itself.
func inOrder(x, y api.Item) int {
	group := func(kind uint8) uint8 { return max(kind, api.OverItem) } // the Kinds of packages come first, up to that one
	return cmp.Or(
		cmp.Compare(group(x.Kind), group(y.Kind)),
		cmp.Compare(x.P, y.P),
		cmp.Compare(x.Kind, y.Kind),
		cmp.Compare(x.Q, y.Q),
	)
}

// those are the items of one Kind, for the numbers below a count of which a condition holds.
func those(kind uint8, count int, condition func(n int) bool) []api.Item {
	var l []api.Item
	for n := range count {
		if condition(n) {
			l = append(l, api.Item{Kind: kind, P: n})
		}
	}
	return l
}

// ofPackage are the items of a package.
func (m *Model) ofPackage(n int) []api.Item {
	var l []api.Item
	if !m.ask.Fits(n) {
		l = append(l, api.Item{Kind: api.ArchItem, P: n})
	}
	p := m.packages[n]
	for _, list := range [...]struct {
		kind  uint8
		count int
	}{
		{api.NeedItem, len(p.Requires)},
		{api.ClashItem, len(p.Conflicts)},
		{api.OverItem, len(p.Obsoletes)},
	} {
		for q := range list.count {
			l = append(l, api.Item{Kind: list.kind, P: n, Q: q})
		}
	}
	return l
}

// ofTwins are the items of any two twins.
func (m *Model) ofTwins() []api.Item {
	var l []api.Item
	for p := range m.packages {
		for q := p + 1; q < len(m.packages); q++ {
			if m.ask.Twins(p, q) {
				l = append(l, api.Item{Kind: api.TwinItem, P: p, Q: q})
			}
		}
	}
	return l
}
