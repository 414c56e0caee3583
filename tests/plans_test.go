package tests

import "loop.example/g00897/impl"

// The routes, lights and plans of this file are those with which the tests of several chapters
// call functions.

func route(start int, fibers ...int) impl.Route { return impl.Route{Start: start, Fibers: fibers} }

func light(id int, r impl.Route, first int, count int) impl.Light {
	return impl.Light{Id: id, Route: r, Block: impl.Block{First: first, Count: count}}
}

func plan(n impl.Network, lights ...impl.Light) impl.Plan {
	return impl.Plan{Network: n, Lights: lights}
}

// expectedRoutes returns all valid routes of a valid network, from every node. It tries all
// continuations of all routes.
func expectedRoutes(n impl.Network) []impl.Route {
	var all []impl.Route
	var extend func(start int, at int, visited map[int]bool, fibers []int)
	extend = func(start int, at int, visited map[int]bool, fibers []int) {
		visited[at] = true
		for i, f := range n.Fibers {
			for _, ends := range [][2]int{{f.A, f.B}, {f.B, f.A}} {
				if ends[0] == at && !visited[ends[1]] {
					longer := append(append([]int(nil), fibers...), i)
					all = append(all, route(start, longer...))
					extend(start, ends[1], visited, longer)
				}
			}
		}
		delete(visited, at)
	}
	for start := range n.Nodes {
		extend(start, start, map[int]bool{}, nil)
	}
	return all
}

// expectedNodes returns the nodes of a valid route.
func expectedNodes(n impl.Network, r impl.Route) []int {
	nodes := []int{r.Start}
	for i, fiber := range r.Fibers {
		nodes = append(nodes, n.Fibers[fiber].A+n.Fibers[fiber].B-nodes[i])
	}
	return nodes
}

// samplePlans returns valid plans: without lights, with adjacent blocks, with the same block on
// other fibers, with the limits of Id, and with as many lights as possible.
func samplePlans() []impl.Plan {
	n := square()
	list := []impl.Plan{
		plan(network("a b")),
		plan(network("a b", [4]int{0, 1, 7, 3}), light(1, route(1, 0), 0, 24)),
		plan(n),
		plan(n, light(1, route(0, 0, 2), 0, 3), light(2, route(1, 2), 3, 2)),
		plan(n, light(5, route(0, 0), 4, 2), light(6, route(0, 0), 0, 4), light(7, route(1, 0), 6, 18)),
		plan(n, light(1, route(0, 0), 0, 24), light(999, route(2, 3), 0, 24)),
		plan(n, light(3, route(0, 0, 2, 3), 0, 1), light(30, route(3, 1, 0, 2), 1, 1), light(300, route(0, 1), 23, 1)),
		plan(parallels(), light(1, route(0, 0, 3), 0, 2), light(2, route(0, 1, 4), 0, 2), light(8, route(2, 5, 2), 0, 2)),
	}
	full := plan(largest())
	for i := range impl.MaxLights {
		full.Lights = append(full.Lights, light(i*90+9, route(0, 3, 10, 8, 11, 12, 7, 4), 2*i, 2))
	}
	return append(list, full)
}

// brokenPlans returns plans each of which breaks one rule.
func brokenPlans() []impl.Plan {
	n, r := square(), route(0, 0, 2)
	many := plan(largest())
	for i := range impl.MaxLights + 1 {
		many.Lights = append(many.Lights, light(i+1, route(0, 0), i, 1))
	}
	list := []impl.Plan{
		{}, many,
		plan(n, light(0, r, 0, 1)), plan(n, light(-1, r, 0, 1)), plan(n, light(1000, r, 0, 1)), plan(n, light(maxInt, r, 0, 1)),
		plan(n, light(minInt, r, 0, 1)), plan(n, light(3, r, 0, 1), light(3, r, 1, 1)), plan(n, light(3, r, 0, 1), light(2, r, 1, 1)),
		plan(n, light(1, r, 0, 1), light(4, r, 1, 1), light(4, route(3, 1), 1, 1)), plan(n, light(3, r, 0, 1), light(0, r, 1, 1)),
		plan(n, light(1, r, 0, 3), light(2, r, 2, 2)), plan(n, light(1, r, 0, 3), light(2, route(2, 2), 0, 3)),
		plan(n, light(1, r, 4, 3), light(2, route(1, 2), 1, 4)), plan(n, light(1, r, 0, 24), light(2, route(3, 3, 2), 11, 1)),
		plan(n, light(1, route(3, 1), 0, 3), light(2, r, 3, 3), light(3, route(0, 1, 3), 2, 1)),
	}
	for _, b := range badBlocks() {
		list = append(list, plan(n, impl.Light{Id: 1, Route: r, Block: b}))
	}
	for _, r := range badRoutes() {
		list = append(list, plan(n, light(1, r, 0, 1)), plan(n, light(1, route(0, 0), 0, 1), light(2, r, 2, 1)))
	}
	for _, n := range brokenNetworks() {
		list = append(list, plan(n), plan(n, light(1, route(0, 0), 0, 1)))
	}
	return list
}

func badBlocks() []impl.Block {
	return []impl.Block{{}, {First: 3}, {First: -1, Count: 1}, {First: -1, Count: 2}, {First: 0, Count: -1}, {First: 0, Count: 25},
		{First: 23, Count: 2}, {First: 24, Count: 1}, {First: 24}, {First: 1, Count: 24}, {First: maxInt, Count: 1}, {First: 1, Count: maxInt},
		{First: maxInt, Count: maxInt}, {First: minInt, Count: 1}, {First: 0, Count: minInt}, {First: minInt, Count: minInt},
		{First: 24, Count: minInt}, {First: minInt, Count: maxInt}, {First: 25, Count: -1}}
}

// badRoutes returns routes that are not valid for the square.
func badRoutes() []impl.Route {
	return []impl.Route{{}, route(0), route(3), route(-1), route(4), route(-1, 0), route(4, 0), route(minInt, 0), route(maxInt, 0),
		route(0, 2), route(0, 3), route(0, -1), route(0, 4), route(0, minInt), route(0, maxInt), route(0, 0, 0), route(0, 0, 1),
		route(0, 0, 3), route(0, 0, 2, 3, 1), route(0, 1, 3, 2, 0), route(1, 0, 0), route(2, 0), route(1, 2, 2), route(0, 0, -1),
		route(0, 0, 2, 4), route(0, 0, 2, 0), route(0, 0, 2, 2), route(2, 3, 1, 0, 2), route(0, 0, 2, 3, 1, 0, 2, 3, 1)}
}
