package tests

import (
	"slices"

	"loop.example/g00897/impl"
)

// The services of this file are those with which the tests of several chapters call functions.

func block(first int, count int) impl.Block { return impl.Block{First: first, Count: count} }

func plain(id int, work impl.Route, b impl.Block) impl.Service {
	return impl.Service{Id: id, Work: work, WorkBlock: b}
}

func dedicated(id int, work impl.Route, b impl.Block, spare impl.Route, c impl.Block) impl.Service {
	return impl.Service{Id: id, Class: impl.ClassDedicated, Work: work, WorkBlock: b, Spare: spare, SpareBlock: c}
}

func shared(id int, work impl.Route, b impl.Block, spare impl.Route, c impl.Block) impl.Service {
	return impl.Service{Id: id, Class: impl.ClassShared, Work: work, WorkBlock: b, Spare: spare, SpareBlock: c}
}

// hub connects a with b and c with d, each by a fiber of its own and over the fiber e-f.
func hub() impl.Network {
	return network("a b c d e f", [4]int{0, 1, 10}, [4]int{0, 4, 10}, [4]int{1, 5, 10}, [4]int{2, 3, 10}, [4]int{2, 4, 10}, [4]int{3, 5, 10}, [4]int{4, 5, 10})
}

// strands connects a and b by fibers of different lengths, one for each given risk.
func strands(risks ...int) impl.Network {
	n := network("a b")
	for i, risk := range risks {
		n.Fibers = append(n.Fibers, impl.Fiber{A: 0, B: 1, Length: 10 * (i + 1), Risk: risk})
	}
	return n
}

// A serviceCase is a list of services for a network.
type serviceCase struct {
	n    impl.Network
	list []impl.Service
}

// sampleServices returns the fixed lists of services, and random ones.
func sampleServices() []serviceCase { return append(fixedServices(), randomServices(40)...) }

// fixedServices returns valid lists of services: none, of each class, with spare slots shared by
// several services, with the limits of Id and as many as possible.
func fixedServices() []serviceCase {
	b := block(0, 4)
	pair := []impl.Service{
		shared(1, route(0, 0), b, route(0, 1, 6, 2), b), shared(2, route(2, 3), b, route(2, 4, 6, 5), b),
	}
	full := slices.Repeat([]impl.Service{plain(0, route(0, 0), block(0, 3))}, impl.MaxServices)
	for i := range full {
		full[i].Id, full[i].WorkBlock.First = i*142+5, 3*i
	}
	return []serviceCase{
		{network("a b"), nil}, {square(), nil}, {hub(), pair}, {strands(0, 0), full},
		{square(), []impl.Service{plain(1, route(0, 0, 2), block(0, 3)), dedicated(2, route(0, 0, 2), block(3, 3), route(0, 1, 3), block(0, 5))}},
		{square(), []impl.Service{plain(1, route(0, 0), block(0, 24)), plain(impl.MaxId, route(2, 3), block(0, 24))}},
		{strands(0, 0, 0, 0), []impl.Service{shared(3, route(0, 0), b, route(0, 3), block(2, 4)), shared(4, route(1, 1), b, route(1, 3), block(2, 4)), shared(5, route(0, 2), b, route(0, 3), block(5, 2))}},
		{strands(1, 1, 2), []impl.Service{shared(3, route(0, 0), b, route(0, 2), block(0, 4)), shared(4, route(0, 1), b, route(0, 2), block(4, 4))}},
		{strands(0, 0, 0), []impl.Service{dedicated(499, route(0, 0), b, route(0, 2), b), dedicated(500, route(0, 1), b, route(0, 2), block(4, 4)), shared(501, route(1, 1), block(4, 4), route(1, 2), block(8, 4))}},
		{diamond(), []impl.Service{dedicated(7, route(0, 0, 3), block(2, 2), route(0, 1, 4), block(9, 2)), shared(8, route(0, 2), block(0, 6), route(0, 1, 4), block(0, 6)), plain(9, route(2, 4), block(20, 4))}},
	}
}

// randomServices returns count valid lists of services with many collisions avoided and many spare
// slots shared. The numbers follow a fixed sequence.
func randomServices(count int) []serviceCase {
	var list []serviceCase
	next := numbers(13)
	networks := randomNetworks(count, 4)
	for range 4 {
		networks = append(networks, hub(), strands(0, 1, 1, 2, 0), strands(0, 0, 0, 0, 0, 0), diamond(), trap())
	}
	for _, n := range networks {
		routes := expectedRoutes(n)
		var services []impl.Service
		for id := 1 + next(60); len(routes) > 0 && id <= impl.MaxId && len(services) < impl.MaxServices; id += 1 + next(60) {
			s := randomService(n, routes, id, next)
			if expectedValidServices(n, append(slices.Clone(services), s)) {
				services = append(services, s)
			}
		}
		list = append(list, serviceCase{n, services})
	}
	return list
}

// randomService returns a service with random routes between the same nodes.
func randomService(n impl.Network, routes []impl.Route, id int, next func(limit int) int) impl.Service {
	s := plain(id, routes[next(len(routes))], block(next(4)*2, 1+next(4)))
	s.Class = []int{impl.ClassPlain, impl.ClassDedicated, impl.ClassShared, impl.ClassShared, impl.ClassShared}[next(5)]
	if s.Class != impl.ClassPlain {
		spares := slices.DeleteFunc(slices.Clone(routes), func(r impl.Route) bool {
			a, b := expectedNodes(n, s.Work), expectedNodes(n, r)
			return a[0] != b[0] || a[len(a)-1] != b[len(b)-1]
		})
		s.Spare, s.SpareBlock = spares[next(len(spares))], block(next(3), 1+next(3))
	}
	return s
}

// places returns a number for every slot of every fiber that a block on a route takes.
func places(r impl.Route, b impl.Block) []int {
	var list []int
	for _, s := range slotsOf(impl.Light{Route: r, Block: b}) {
		list = append(list, s[0]*100+s[1])
	}
	return list
}

// expectedCompatible compares the slots of two valid services one by one.
func expectedCompatible(n impl.Network, a impl.Service, b impl.Service) bool {
	workA, workB := places(a.Work, a.WorkBlock), places(b.Work, b.WorkBlock)
	spareA, spareB := places(a.Spare, a.SpareBlock), places(b.Spare, b.SpareBlock)
	mayShare := a.Class == impl.ClassShared && b.Class == impl.ClassShared && len(expectedRisks(n, a.Work, b.Work)) == 0
	return !have(workA, workB) && !have(workA, spareB) && !have(spareA, workB) && (mayShare || !have(spareA, spareB))
}

// expectedValidService reports whether a service whose routes and blocks are valid, or zero, is
// valid.
func expectedValidService(n impl.Network, s impl.Service) bool {
	if s.Id < 1 || s.Id > impl.MaxId || len(s.Work.Fibers) == 0 {
		return false
	}
	if s.Class == impl.ClassPlain {
		return s.Spare.Start == 0 && len(s.Spare.Fibers) == 0 && s.SpareBlock == impl.Block{}
	}
	if len(s.Spare.Fibers) == 0 || s.SpareBlock.Count == 0 || s.Class < 0 || s.Class > impl.ClassShared {
		return false
	}
	work, spare := expectedNodes(n, s.Work), expectedNodes(n, s.Spare)
	return work[0] == spare[0] && work[len(work)-1] == spare[len(spare)-1] && len(expectedRisks(n, s.Work, s.Spare)) == 0
}

// expectedValidServices does the same for a list of services.
func expectedValidServices(n impl.Network, list []impl.Service) bool {
	for i, s := range list {
		if !expectedValidService(n, s) || i > 0 && s.Id <= list[i-1].Id {
			return false
		}
		for _, other := range list[:i] {
			if !expectedCompatible(n, s, other) {
				return false
			}
		}
	}
	return len(list) <= impl.MaxServices
}

// badServices returns services that are not valid for the square.
func badServices() []impl.Service {
	work, spare, b := route(0, 0, 2), route(0, 1, 3), block(0, 2)
	var list []impl.Service
	for _, id := range []int{0, -1, impl.MaxId + 1, minInt, maxInt} {
		list = append(list, plain(id, work, b), dedicated(id, work, b, spare, b))
	}
	for _, r := range badRoutes() {
		list = append(list, plain(9, r, b), shared(9, r, b, spare, b), dedicated(9, work, b, r, b))
	}
	for _, x := range badBlocks() {
		list = append(list, plain(9, work, x), shared(9, work, x, spare, b), dedicated(9, work, b, spare, x))
	}
	for _, class := range []int{-1, 3, minInt, maxInt} {
		list = append(list, impl.Service{Id: 9, Class: class, Work: work, WorkBlock: b, Spare: spare, SpareBlock: b}, impl.Service{Id: 9, Class: class, Work: work, WorkBlock: b})
	}
	// A plain service has no spare route or block, and another one has both.
	list = append(list, impl.Service{Id: 9, Work: work, WorkBlock: b, Spare: spare, SpareBlock: b}, impl.Service{Id: 9, Work: work, WorkBlock: b, Spare: spare},
		impl.Service{Id: 9, Work: work, WorkBlock: b, SpareBlock: b}, impl.Service{Id: 9, Work: work, WorkBlock: b, Spare: impl.Route{Start: 1}},
		impl.Service{Id: 9, Work: work, WorkBlock: b, SpareBlock: block(1, 0)}, impl.Service{Id: 9, Work: work, WorkBlock: b, Spare: route(0, 0)},
		impl.Service{Id: 9, Class: impl.ClassDedicated, Work: work, WorkBlock: b}, impl.Service{Id: 9, Class: impl.ClassShared, Work: work, WorkBlock: b, Spare: spare})
	// The spare route has another start or end, the opposite direction, or a risk in common.
	for _, spare := range []impl.Route{route(0, 1), route(3, 3), route(2, 3, 1), route(1, 0, 1, 3), work, route(0, 0)} {
		list = append(list, dedicated(9, work, b, spare, b), shared(9, work, b, spare, block(9, 2)))
	}
	return append(list, dedicated(9, route(0, 0, 2, 3), b, route(0, 1), b), shared(9, route(0, 1), b, route(0, 0, 2, 3), b), impl.Service{})
}

// brokenServices returns lists of services for the square that are not valid.
func brokenServices() [][]impl.Service {
	work, spare, b := route(0, 0, 2), route(0, 1, 3), block(0, 2)
	many := slices.Repeat([]impl.Service{plain(0, route(0, 0), block(0, 1))}, impl.MaxServices+1)
	for i := range many {
		many[i].Id, many[i].WorkBlock.First = i+1, i
	}
	one := dedicated(5, work, b, spare, b)
	lists := [][]impl.Service{
		many, {one, plain(5, work, block(2, 2))}, {one, plain(4, work, block(2, 2))}, {plain(2, work, block(4, 1)), one, plain(3, work, block(5, 1))},
		{one, plain(6, work, block(1, 2))}, {one, plain(6, route(2, 2), b)}, {one, plain(6, route(3, 3), block(1, 1))},
		{one, dedicated(6, spare, block(2, 2), work, b)}, {one, dedicated(6, spare, b, work, block(2, 2))}, {one, dedicated(6, work, block(2, 2), spare, block(1, 2))},
		{one, shared(6, work, block(2, 2), spare, block(1, 2))}, {shared(5, work, b, spare, b), shared(6, route(1, 0), block(2, 2), route(1, 2, 3, 1), b)},
		{shared(5, work, b, spare, b), shared(6, work, block(2, 2), spare, b)},
	}
	for _, s := range badServices() {
		lists = append(lists, []impl.Service{s}, []impl.Service{plain(1, route(0, 0), block(20, 1)), s})
	}
	return lists
}
