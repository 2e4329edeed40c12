package rich

import (
	"slices"

	"dovetail/api"
	"dovetail/rpm"
)

// capability is one that is fit, its EVR read.
type capability struct {
	name, cmp string
	evr       api.Evr
}

func capabilityOf(d api.Rich) capability {
	// Where there is no comparison, there is no EVR, and nobody asks for it.
	evr, _ := rpm.Parse(d.Evr)
	return capability{name: d.Name, cmp: d.Cmp, evr: evr}
}

func isCapability(d api.Rich) bool { return d.Op == api.RiCap && Fit(d) }

func isProvided(d api.Rich) bool { return (d.Cmp == "" || d.Cmp == "=") && isCapability(d) }

// readPackages is what packages provide, without what is no provided capability.
func readPackages(packages [][]api.Rich) [][]capability {
	var all [][]capability
	for _, l := range packages {
		var has []capability
		for _, d := range l {
			if isProvided(d) {
				has = append(has, capabilityOf(d))
			}
		}
		all = append(all, has)
	}
	return all
}

// takes tells whether a provided one fits a wanted one.
func (wanted capability) takes(provided capability) bool {
	switch {
	case wanted.name != provided.name:
		return false
	case wanted.cmp == "":
		return true
	case provided.cmp == "":
		return false
	}
	return isAs(wanted.cmp, orderEvrs(provided.evr, wanted.evr))
}

// orderEvrs is the order of two EVRs, in which releases count only where both have one.
func orderEvrs(a, b api.Evr) int {
	if !a.HasRel || !b.HasRel {
		a.Rel, a.HasRel = "", false
		b.Rel, b.HasRel = "", false
	}
	return rpm.Order(a, b)
}

// isAs tells whether an order is as a comparison says.
func isAs(cmp string, order int) bool {
	switch cmp {
	case "<":
		return order < 0
	case "<=":
		return order <= 0
	case "=":
		return order == 0
	case ">=":
		return order >= 0
	}
	return order > 0
}

// meanings is what makes a fit dependency hold, by its kind, where packages provide some capabilities.
func meanings(packages [][]capability) [api.NumRis]func(api.Rich) bool {
	var table [api.NumRis]func(api.Rich) bool
	holds := func(d api.Rich) bool { return table[d.Op](d) }
	fails := func(d api.Rich) bool { return !holds(d) }
	table = [api.NumRis]func(api.Rich) bool{
		api.RiCap: func(d api.Rich) bool {
			return slices.ContainsFunc(packages, func(has []capability) bool { return provide(has, d) })
		},
		api.RiAnd: func(d api.Rich) bool { return !slices.ContainsFunc(d.Subs, fails) },
		api.RiOr:  func(d api.Rich) bool { return slices.ContainsFunc(d.Subs, holds) },
		api.RiIf: func(d api.Rich) bool {
			if holds(d.Subs[1]) {
				return holds(d.Subs[0])
			}
			return len(d.Subs) == 2 || holds(d.Subs[2])
		},
		api.RiUnless: func(d api.Rich) bool {
			if holds(d.Subs[1]) {
				return len(d.Subs) > 2 && holds(d.Subs[2])
			}
			return holds(d.Subs[0])
		},
		api.RiWith: func(d api.Rich) bool {
			return slices.ContainsFunc(packages, func(has []capability) bool {
				lacks := func(operand api.Rich) bool { return !provide(has, operand) }
				return !slices.ContainsFunc(d.Subs, lacks)
			})
		},
		api.RiWithout: func(d api.Rich) bool {
			return slices.ContainsFunc(packages, func(has []capability) bool {
				return provide(has, d.Subs[0]) && !provide(has, d.Subs[1])
			})
		},
	}
	return table
}

// provide tells whether one of what a package has fits a wanted capability.
func provide(has []capability, wanted api.Rich) bool {
	return slices.ContainsFunc(has, capabilityOf(wanted).takes)
}
