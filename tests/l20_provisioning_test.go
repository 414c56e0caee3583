package tests

import (
	"reflect"
	"slices"
	"testing"

	"loop.example/g00897/impl"
)

// The tests of this file compare every function of chapter 20 with what the document states:
// ordinary inputs, the edge cases that the chapter names, and invalid inputs.

func add(x impl.Light) impl.Action    { return impl.Action{Kind: impl.ActionAdd, Light: x} }
func remove(x impl.Light) impl.Action { return impl.Action{Kind: impl.ActionRemove, Light: x} }
func move(x impl.Light) impl.Action   { return impl.Action{Kind: impl.ActionMove, Light: x} }

func actions(list ...impl.Action) []impl.Action { return list }

// change builds a change that still goes on.
func change(p impl.Plan, list []impl.Action, undo ...impl.Action) impl.Change {
	return impl.Change{Plan: p, Actions: list, Undo: undo}
}

// changeBack builds a change that is being undone.
func changeBack(p impl.Plan, undo ...impl.Action) impl.Change {
	return impl.Change{Plan: p, Undo: undo, Back: true}
}

// equalLights compares lights in all fields.
func equalLights(x impl.Light, y impl.Light) bool {
	return x.Id == y.Id && x.Block == y.Block && x.Route.Start == y.Route.Start && slices.Equal(x.Route.Fibers, y.Route.Fibers)
}

// expectedLight reports whether x has an Id, a route of the valid network n and a block.
func expectedLight(n impl.Network, x impl.Light) bool {
	isRoute := func(r impl.Route) bool { return r.Start == x.Route.Start && slices.Equal(r.Fibers, x.Route.Fibers) }
	return x.Id >= 1 && x.Id <= impl.MaxId && slices.ContainsFunc(expectedRoutes(n), isRoute) &&
		x.Block.First >= 0 && x.Block.First < impl.MaxSlots && x.Block.Count >= 1 && x.Block.Count <= impl.MaxSlots-x.Block.First
}

// expectedApply applies an action to a valid plan.
func expectedApply(p impl.Plan, a impl.Action) (impl.Plan, bool) {
	at := slices.IndexFunc(p.Lights, func(x impl.Light) bool { return x.Id == a.Light.Id })
	lights := slices.Clone(p.Lights)
	switch {
	case a.Kind == impl.ActionRemove && at >= 0 && equalLights(lights[at], a.Light):
		lights = slices.Delete(lights, at, at+1)
	case a.Kind == impl.ActionAdd && at < 0 && len(lights) < impl.MaxLights, a.Kind == impl.ActionMove && at >= 0:
		if !expectedLight(p.Network, a.Light) || len(expectedColliding(p, a.Light)) > 0 {
			return p, false
		}
		if at >= 0 {
			lights = slices.Delete(lights, at, at+1)
		}
		lights = append(lights, a.Light)
		slices.SortFunc(lights, func(x impl.Light, y impl.Light) int { return x.Id - y.Id })
	default:
		return p, false
	}
	return plan(p.Network, lights...), true
}

// expectedInverse returns the action that undoes one that can be applied.
func expectedInverse(p impl.Plan, a impl.Action) impl.Action {
	switch a.Kind {
	case impl.ActionAdd:
		return remove(a.Light)
	case impl.ActionRemove:
		return add(a.Light)
	}
	old, _ := lightOf(p.Lights, a.Light.Id)
	return move(old)
}

// expectedApplied applies actions until one of them cannot be applied, and returns the plan then
// and the number of actions applied.
func expectedApplied(p impl.Plan, list []impl.Action) (impl.Plan, int) {
	for i, a := range list {
		q, ok := expectedApply(p, a)
		if !ok {
			return p, i
		}
		p = q
	}
	return p, len(list)
}

// expectedStep performs a step of a valid change.
func expectedStep(c impl.Change) impl.Change {
	switch {
	case !c.Back && len(c.Actions) > 0:
		q, ok := expectedApply(c.Plan, c.Actions[0])
		if !ok {
			return changeBack(c.Plan, c.Undo...)
		}
		undo := append(actions(expectedInverse(c.Plan, c.Actions[0])), c.Undo...)
		return change(q, c.Actions[1:], undo...)
	case c.Back && len(c.Undo) > 0:
		q, _ := expectedApply(c.Plan, c.Undo[0])
		return changeBack(q, c.Undo[1:]...)
	}
	return c
}

func expectedState(c impl.Change) int {
	switch {
	case !c.Back && len(c.Actions) == 0:
		return impl.ChangeDone
	case c.Back && len(c.Undo) == 0:
		return impl.ChangeUndone
	}
	return impl.ChangeRunning
}

// expectedHitless reports whether actions can be applied, with no slot of a moved light in both of
// its places.
func expectedHitless(p impl.Plan, list []impl.Action) bool {
	for _, a := range list {
		q, ok := expectedApply(p, a)
		old, exists := lightOf(p.Lights, a.Light.Id)
		if !ok || a.Kind == impl.ActionMove && exists && have(places(old.Route, old.Block), places(a.Light.Route, a.Light.Block)) {
			return false
		}
		p = q
	}
	return true
}

// badActions returns actions that can be applied to no plan of the square.
func badActions() []impl.Action {
	var list []impl.Action
	for _, x := range badLights() {
		list = append(list, add(x), remove(x), move(x))
	}
	for _, kind := range []int{0, -1, 4, 5, minInt, maxInt} {
		list = append(list, impl.Action{Kind: kind, Light: light(9, route(0, 1), 5, 1)}, impl.Action{Kind: kind})
	}
	return append(list, add(impl.Light{}), remove(impl.Light{}), move(impl.Light{}))
}

// twoLights has two lights next to each other on the fiber a-b.
func twoLights() impl.Plan {
	return plan(square(), light(3, route(0, 0), 0, 2), light(5, route(0, 0), 2, 2))
}

func TestApplyAction(t *testing.T) {
	p := twoLights()
	a, b := p.Lights[0], p.Lights[1]
	x := light(4, route(1, 0, 1), 4, 2)
	check(t, impl.ApplyAction, in(p, add(x)), out(plan(p.Network, a, x, b), true))
	check(t, impl.ApplyAction, in(p, remove(a)), out(plan(p.Network, b), true))
	check(t, impl.ApplyAction, in(p, move(light(3, route(1, 0), 4, 3))), out(plan(p.Network, light(3, route(1, 0), 4, 3), b), true))
	check(t, impl.ApplyAction, in(p, move(light(5, route(2, 2), 0, 2))), out(plan(p.Network, a, light(5, route(2, 2), 0, 2)), true))
	// A move into slots of the old place, and one to the old place itself.
	check(t, impl.ApplyAction, in(p, move(light(5, route(0, 0), 3, 4))), out(plan(p.Network, a, light(5, route(0, 0), 3, 4)), true))
	check(t, impl.ApplyAction, in(p, move(b)), out(p, true))
	// A light that is there already, one that is not there, and slots that are occupied.
	checkFails(t, impl.ApplyAction, p, add(a))
	checkFails(t, impl.ApplyAction, p, add(light(3, route(0, 1), 9, 1)))
	checkFails(t, impl.ApplyAction, p, add(light(4, route(0, 0), 3, 2)))
	checkFails(t, impl.ApplyAction, p, remove(x))
	checkFails(t, impl.ApplyAction, p, move(x))
	checkFails(t, impl.ApplyAction, p, move(light(5, route(0, 0), 1, 2)))
	checkFails(t, impl.ApplyAction, plan(square()), remove(a))
	// A light that is there but differs in a field.
	for _, y := range []impl.Light{light(3, route(0, 0), 0, 1), light(3, route(0, 0), 1, 2), light(3, route(1, 0), 0, 2), light(3, route(0, 0, 2), 0, 2), light(3, route(0, 1), 0, 2), light(3, route(0), 0, 2), light(5, route(0, 0), 0, 2), light(4, route(0, 0), 0, 2)} {
		checkFails(t, impl.ApplyAction, p, remove(y))
		checkFails(t, impl.InverseAction, p, remove(y))
	}
	for _, a := range badActions() {
		checkFails(t, impl.ApplyAction, p, a)
		checkFails(t, impl.InverseAction, p, a)
		checkFails(t, impl.ApplyAction, plan(square()), a)
	}
	for _, p := range brokenPlans() {
		for _, a := range actions(add(light(500, route(0, 0), 23, 1)), move(light(1, route(0, 0), 23, 1)), impl.Action{}) {
			checkFails(t, impl.ApplyAction, p, a)
			checkFails(t, impl.InverseAction, p, a)
		}
		for _, x := range p.Lights {
			checkFails(t, impl.ApplyAction, p, remove(x))
			checkFails(t, impl.InverseAction, p, remove(x))
		}
	}
}

func TestInverseAction(t *testing.T) {
	p := twoLights()
	a, b := p.Lights[0], p.Lights[1]
	x := light(4, route(1, 0, 1), 4, 2)
	check(t, impl.InverseAction, in(p, add(x)), out(remove(x), true))
	check(t, impl.InverseAction, in(p, remove(a)), out(add(a), true))
	check(t, impl.InverseAction, in(p, move(light(5, route(2, 2), 0, 2))), out(move(b), true))
	check(t, impl.InverseAction, in(p, move(light(3, route(1, 0), 4, 3))), out(move(a), true))
	check(t, impl.InverseAction, in(p, move(b)), out(move(b), true))
	checkFails(t, impl.InverseAction, p, add(a))
	checkFails(t, impl.InverseAction, p, add(light(4, route(0, 0), 3, 2)))
	checkFails(t, impl.InverseAction, p, remove(x))
	checkFails(t, impl.InverseAction, p, move(x))
	checkFails(t, impl.InverseAction, p, move(light(5, route(0, 0), 1, 2)))
}

// randomAction returns an action for a plan that has a route, which may not be applicable.
func randomAction(p impl.Plan, routes []impl.Route, next func(limit int) int) impl.Action {
	first := next(impl.MaxSlots)
	x := light(1+next(impl.MaxId), routes[next(len(routes))], first, 1+next(min(4, impl.MaxSlots-first)))
	if len(p.Lights) == 0 || next(4) == 0 {
		return add(x)
	}
	old := p.Lights[next(len(p.Lights))]
	switch next(8) {
	case 0, 1:
		return remove(old)
	case 2:
		return remove(light(old.Id, old.Route, first, old.Block.Count))
	case 3:
		return add(light(old.Id, x.Route, first, 1))
	case 4:
		return impl.Action{Kind: next(5), Light: x}
	}
	x.Id = old.Id
	if next(3) == 0 {
		x.Route = old.Route
	}
	return move(x)
}

// randomActions returns actions of which most can be applied one after the other. They are for the
// plan that the ones before lead to.
func randomActions(p impl.Plan, count int, next func(limit int) int) []impl.Action {
	routes, list := expectedRoutes(p.Network), []impl.Action{}
	for len(routes) > 0 && len(list) < count {
		a := randomAction(p, routes, next)
		q, ok := expectedApply(p, a)
		for tries := 0; !ok && tries < 4 && next(5) > 0; tries++ {
			a = randomAction(p, routes, next)
			q, ok = expectedApply(p, a)
		}
		p, list = q, append(list, a)
	}
	return list
}

func TestActionsOfSamples(t *testing.T) {
	next := numbers(20)
	applied, refused := map[int]int{}, map[int]int{}
	for _, p := range allPlans() {
		for _, a := range randomActions(p, 12, next) {
			q, ok := expectedApply(p, a)
			if !ok {
				checkFails(t, impl.ApplyAction, p, a)
				checkFails(t, impl.InverseAction, p, a)
				refused[a.Kind]++
				continue
			}
			check(t, impl.ApplyAction, in(p, a), out(q, true))
			check(t, impl.InverseAction, in(p, a), out(expectedInverse(p, a), true))
			check(t, impl.ApplyAction, in(q, expectedInverse(p, a)), out(p, true))
			applied[a.Kind]++
		}
	}
	for kind := impl.ActionAdd; kind <= impl.ActionMove; kind++ {
		if applied[kind] < 20 || refused[kind] < 20 {
			t.Errorf("%d actions of the kind %d are applied, and %d not", applied[kind], kind, refused[kind])
		}
	}
}

func TestApplyActions(t *testing.T) {
	p := twoLights()
	a, b, x := p.Lights[0], p.Lights[1], light(4, route(1, 0, 1), 4, 2)
	check(t, impl.ApplyActions, in(p, actions()), out(p, 0, true))
	check(t, impl.ApplyActions, in(p, actions(add(x))), out(plan(p.Network, a, x, b), 1, true))
	check(t, impl.ApplyActions, in(p, actions(add(x), remove(a))), out(plan(p.Network, x, b), 2, true))
	check(t, impl.ApplyActions, in(p, actions(remove(a), move(light(5, route(0, 0), 0, 2)), add(light(3, route(0, 0), 2, 2)))), out(plan(p.Network, light(3, route(0, 0), 2, 2), light(5, route(0, 0), 0, 2)), 3, true))
	check(t, impl.ApplyActions, in(p, actions(add(x), remove(x))), out(p, 2, true))
	// Actions that fail in the middle, at the beginning and at the end.
	check(t, impl.ApplyActions, in(p, actions(add(x), add(x), remove(a))), out(p, 1, true))
	check(t, impl.ApplyActions, in(p, actions(add(a), add(x))), out(p, 0, true))
	check(t, impl.ApplyActions, in(p, actions(add(x), remove(a), remove(a))), out(p, 2, true))
	check(t, impl.ApplyActions, in(p, actions(remove(a), impl.Action{Kind: 4, Light: a}, remove(b))), out(p, 1, true))
	check(t, impl.ApplyActions, in(p, actions(remove(b), remove(light(3, route(0, 0), 0, 1)))), out(p, 1, true))
	// Exactly MaxActions actions and one more.
	many := actions()
	for range impl.MaxActions / 2 {
		many = append(many, add(x), remove(x))
	}
	check(t, impl.ApplyActions, in(p, many), out(p, impl.MaxActions, true))
	check(t, impl.ApplyActions, in(p, append(slices.Clone(many[:7]), add(x))), out(p, 7, true))
	checkFails(t, impl.ApplyActions, p, append(slices.Clone(many), add(x)))
	checkFails(t, impl.ApplyActions, p, append(slices.Clone(many), add(a)))
	checkFails(t, impl.IsHitless, p, append(slices.Clone(many), add(x)))
	checkFails(t, impl.StartChange, p, append(slices.Clone(many), add(x)))
	checkFails(t, impl.ApplyActions, p, slices.Repeat(actions(add(a)), impl.MaxActions+1))
	for _, p := range brokenPlans() {
		checkFails(t, impl.ApplyActions, p, actions())
		checkFails(t, impl.ApplyActions, p, actions(add(x)))
		checkFails(t, impl.StartChange, p, actions())
		checkFails(t, impl.StartChange, p, actions(add(x)))
		checkFails(t, impl.IsHitless, p, actions())
		checkFails(t, impl.IsHitless, p, actions(add(x)))
	}
}

func TestChangesOfSamples(t *testing.T) {
	next := numbers(201)
	ends := map[int]int{}
	for _, p := range allPlans() {
		for range 3 {
			list := randomActions(p, next(impl.MaxActions+1), next)
			q, count := expectedApplied(p, list)
			if count < len(list) {
				q = p
			}
			check(t, impl.ApplyActions, in(p, list), out(q, count, true))
			check(t, impl.IsHitless, in(p, list), out(expectedHitless(p, list), true))
			c := change(p, list)
			check(t, impl.StartChange, in(p, list), out(c, true))
			ends[compareChange(t, c, next)]++
		}
	}
	if ends[impl.ChangeDone] < 30 || ends[impl.ChangeUndone] < 30 {
		t.Errorf("the changes end %v", ends)
	}
}

// compareChange performs the steps of a change one by one and several at a time, and returns the
// last state.
func compareChange(t *testing.T, c impl.Change, next func(limit int) int) int {
	t.Helper()
	for steps := 0; ; steps++ {
		check(t, impl.IsValidChange, in(c), out(true))
		check(t, impl.RunChange, in(c, 0), out(c, expectedState(c), true))
		later, count := c, next(21)
		for range count {
			later = expectedStep(later)
		}
		check(t, impl.RunChange, in(c, count), out(later, expectedState(later), true))
		after := expectedStep(c)
		check(t, impl.StepChange, in(c), out(after, expectedState(after), true))
		if state := expectedState(c); state != impl.ChangeRunning {
			return state
		}
		if steps > 20 {
			t.Fatalf("%v does not end", c)
		}
		c = after
	}
}

func TestStepChange(t *testing.T) {
	p := twoLights()
	a, b, x := p.Lights[0], p.Lights[1], light(4, route(1, 0, 1), 4, 2)
	withX, onlyX := plan(p.Network, a, x, b), plan(p.Network, x, b)
	c := change(p, actions(add(x), remove(a)))
	check(t, impl.StepChange, in(c), out(change(withX, actions(remove(a)), remove(x)), impl.ChangeRunning, true))
	check(t, impl.StepChange, in(change(withX, actions(remove(a)), remove(x))), out(change(onlyX, nil, add(a), remove(x)), impl.ChangeDone, true))
	check(t, impl.StepChange, in(change(onlyX, nil, add(a), remove(x))), out(change(onlyX, nil, add(a), remove(x)), impl.ChangeDone, true))
	// The second action cannot be applied.
	check(t, impl.StepChange, in(change(withX, actions(remove(x), add(a), add(x)), remove(x))), out(change(p, actions(add(a), add(x)), add(x), remove(x)), impl.ChangeRunning, true))
	check(t, impl.StepChange, in(change(p, actions(add(a), add(x)), add(x), remove(x))), out(changeBack(p, add(x), remove(x)), impl.ChangeRunning, true))
	check(t, impl.StepChange, in(changeBack(p, add(x), remove(x))), out(changeBack(withX, remove(x)), impl.ChangeRunning, true))
	check(t, impl.StepChange, in(changeBack(withX, remove(x))), out(changeBack(p), impl.ChangeUndone, true))
	check(t, impl.StepChange, in(changeBack(p)), out(changeBack(p), impl.ChangeUndone, true))
	// The first action cannot be applied, and nothing has to be undone.
	check(t, impl.StepChange, in(change(p, actions(add(a), add(x)))), out(changeBack(p), impl.ChangeUndone, true))
	check(t, impl.StepChange, in(change(p, actions(impl.Action{}))), out(changeBack(p), impl.ChangeUndone, true))
	// No actions at all.
	check(t, impl.StepChange, in(change(p, nil)), out(change(p, nil), impl.ChangeDone, true))
	check(t, impl.RunChange, in(change(p, nil), 0), out(change(p, nil), impl.ChangeDone, true))
	check(t, impl.RunChange, in(changeBack(p), 0), out(changeBack(p), impl.ChangeUndone, true))
	check(t, impl.RunChange, in(changeBack(p, remove(a)), 0), out(changeBack(p, remove(a)), impl.ChangeRunning, true))
	// Moves are undone by moves to the old place.
	moved := plan(p.Network, a, light(5, route(2, 2), 0, 2))
	check(t, impl.StepChange, in(change(p, actions(move(moved.Lights[1]), add(a)))), out(change(moved, actions(add(a)), move(b)), impl.ChangeRunning, true))
	check(t, impl.RunChange, in(change(p, actions(move(moved.Lights[1]), add(a))), 20), out(changeBack(p), impl.ChangeUndone, true))
	check(t, impl.RunChange, in(change(p, actions(move(moved.Lights[1]), add(x))), 20), out(change(plan(p.Network, a, x, moved.Lights[1]), nil, remove(x), move(b)), impl.ChangeDone, true))
}

func TestRunChange(t *testing.T) {
	p := twoLights()
	a, x := p.Lights[0], light(4, route(1, 0, 1), 4, 2)
	many := actions()
	for range impl.MaxActions / 2 {
		many = append(many, add(x), remove(x))
	}
	many[7] = add(a)
	c := change(p, many)
	// Seven steps on, one that turns the change back, and seven steps back.
	check(t, impl.RunChange, in(c, 15), out(changeBack(p), impl.ChangeUndone, true))
	check(t, impl.RunChange, in(c, 20), out(changeBack(p), impl.ChangeUndone, true))
	for steps := range 15 {
		_, state, ok := impl.RunChange(c, steps)
		if !ok || state != impl.ChangeRunning {
			t.Errorf("the state after %d steps is %d, %v", steps, state, ok)
		}
	}
	for _, steps := range []int{-1, 21, minInt, maxInt} {
		checkFails(t, impl.RunChange, c, steps)
		checkFails(t, impl.RunChange, change(p, nil), steps)
	}
}

func TestIsValidChange(t *testing.T) {
	p := twoLights()
	a, b, x := p.Lights[0], p.Lights[1], light(4, route(1, 0, 1), 4, 2)
	many := slices.Repeat(actions(add(x), remove(x)), impl.MaxActions/2)
	valid := []impl.Change{
		change(p, nil), changeBack(p), change(p, nil, remove(a)), changeBack(p, remove(a)), change(p, actions(add(a))), change(p, badActions()[:8]),
		change(p, actions(add(a)), many[:7]...), change(p, nil, many...), changeBack(p, many...), change(p, many), change(p, many[:4], many[:4]...),
		change(p, actions(remove(x)), move(light(3, route(2, 2), 0, 1)), remove(b)),
	}
	for _, c := range valid {
		check(t, impl.IsValidChange, in(c), out(true))
	}
	for _, c := range brokenChanges() {
		check(t, impl.IsValidChange, in(c), out(false))
		checkFails(t, impl.StepChange, c)
		for _, steps := range []int{0, 1, 20} {
			checkFails(t, impl.RunChange, c, steps)
		}
	}
}

// brokenChanges returns changes each of which breaks one rule.
func brokenChanges() []impl.Change {
	p := twoLights()
	a, x := p.Lights[0], light(4, route(1, 0, 1), 4, 2)
	many := slices.Repeat(actions(add(x), remove(x)), impl.MaxActions)
	list := []impl.Change{
		// Too many actions, and actions of a change that is being undone.
		change(p, many[:9]), change(p, nil, many[:9]...), changeBack(p, many[:9]...), change(p, many[:8], many[0]), change(p, many[:1], many[:8]...), change(p, many[:5], many[:4]...),
		change(p, many, many...), {Plan: p, Actions: actions(add(x)), Back: true}, {Plan: p, Actions: actions(add(x)), Undo: actions(remove(a)), Back: true},
		// An Undo that cannot be applied, or not in its order.
		change(p, nil, add(a)), changeBack(p, add(a)), change(p, nil, remove(x)), change(p, nil, remove(x), add(x)), changeBack(p, add(x), remove(x), remove(x)),
		change(p, actions(add(x)), remove(x)), changeBack(p, remove(light(3, route(0, 0), 0, 1))), changeBack(p, remove(a), move(a)), {},
	}
	for i, a := range badActions() {
		if i%2 == 0 {
			list = append(list, change(p, nil, a))
		} else {
			list = append(list, changeBack(p, remove(p.Lights[1]), a))
		}
	}
	for _, p := range brokenPlans() {
		list = append(list, change(p, nil), changeBack(p), change(p, actions(add(x))))
	}
	return list
}

// expectedDifference lists the actions for lights that have gone, differ or are new.
func expectedDifference(p impl.Plan, q impl.Plan) []impl.Action {
	lists := [3][]impl.Action{}
	for id := range impl.MaxId + 1 {
		x, inP := lightOf(p.Lights, id)
		y, inQ := lightOf(q.Lights, id)
		switch {
		case inP && !inQ:
			lists[0] = append(lists[0], remove(x))
		case inP && !equalLights(x, y):
			lists[1] = append(lists[1], move(y))
		case inQ && !inP:
			lists[2] = append(lists[2], add(y))
		}
	}
	return slices.Concat(lists[0], lists[1], lists[2])
}

// expectedSafe returns the first order of actions in which they can be applied. It tries all of
// them.
func expectedSafe(p impl.Plan, list []impl.Action) ([]impl.Action, bool) {
	if len(list) == 0 {
		return actions(), true
	}
	for i, a := range list {
		q, ok := expectedApply(p, a)
		if !ok {
			continue
		}
		if rest, ok := expectedSafe(q, slices.Delete(slices.Clone(list), i, i+1)); ok {
			return append(actions(a), rest...), true
		}
	}
	return nil, false
}

func TestPlanDifference(t *testing.T) {
	p := twoLights()
	a, b, x := p.Lights[0], p.Lights[1], light(4, route(1, 0, 1), 4, 2)
	check(t, impl.PlanDifference, in(p, p), out(actions(), true))
	check(t, impl.PlanDifference, in(p, plan(p.Network)), out(actions(remove(a), remove(b)), true))
	check(t, impl.PlanDifference, in(plan(p.Network), p), out(actions(add(a), add(b)), true))
	check(t, impl.PlanDifference, in(p, plan(p.Network, x, light(5, route(0, 0), 2, 1))), out(actions(remove(a), move(light(5, route(0, 0), 2, 1)), add(x)), true))
	check(t, impl.PlanDifference, in(p, plan(p.Network, light(1, route(3, 3), 0, 1), light(5, route(1, 0), 2, 2), light(9, route(3, 3), 1, 1))), out(actions(remove(a), move(light(5, route(1, 0), 2, 2)), add(light(1, route(3, 3), 0, 1)), add(light(9, route(3, 3), 1, 1))), true))
	// Plans of different networks, which may differ only in a name, a length or a risk.
	for _, change := range []func(n *impl.Network){
		func(n *impl.Network) { n.Nodes[3] = "e" }, func(n *impl.Network) { n.Nodes = append(n.Nodes, "e") }, func(n *impl.Network) { n.Fibers[0].Length++ },
		func(n *impl.Network) { n.Fibers[3].Risk++ }, func(n *impl.Network) { n.Fibers = n.Fibers[:3] },
	} {
		n := square()
		change(&n)
		checkFails(t, impl.PlanDifference, p, plan(n, a, b))
		checkFails(t, impl.SafeOrder, p, plan(n, a, b))
		checkFails(t, impl.PlanDifference, plan(n), plan(square()))
	}
	for _, q := range brokenPlans() {
		for _, f := range []any{impl.PlanDifference, impl.SafeOrder} {
			checkFails(t, f, q, plan(q.Network))
			checkFails(t, f, plan(q.Network), q)
			checkFails(t, f, q, q)
		}
	}
}

// TestPlanDifferenceUpToTheLimit compares plans of which some lights differ.
func TestPlanDifferenceUpToTheLimit(t *testing.T) {
	p, moved := plan(square()), plan(square())
	for i := range impl.MaxLights {
		p.Lights = append(p.Lights, light(i+1, route(0, 0), 2*i, 2))
		moved.Lights = append(moved.Lights, light(i+1, route(0, 0), 2*i, 1))
	}
	q := plan(square(), slices.Concat(moved.Lights[:8], p.Lights[8:])...)
	check(t, impl.PlanDifference, in(p, q), out(expectedDifference(p, q), true))
	check(t, impl.SafeOrder, in(p, q), out(expectedDifference(p, q), true))
	q = plan(square(), slices.Concat(moved.Lights[:9], p.Lights[9:])...)
	checkFails(t, impl.PlanDifference, p, q)
	checkFails(t, impl.SafeOrder, p, q)
	// Lights that are removed and others that are added, in a full plan.
	q = plan(square(), slices.Clone(p.Lights[4:])...)
	for i := range 4 {
		q.Lights = append(q.Lights, light(100+i, route(3, 3), 5*i, 5))
	}
	check(t, impl.PlanDifference, in(p, q), out(expectedDifference(p, q), true))
	check(t, impl.SafeOrder, in(p, q), out(expectedDifference(p, q), true))
	check(t, impl.SafeOrder, in(q, p), out(expectedDifference(q, p), true))
	q.Lights[0].Block.Count = 1
	checkFails(t, impl.PlanDifference, p, q)
	checkFails(t, impl.PlanDifference, p, plan(square(), p.Lights[9:]...))
	checkFails(t, impl.PlanDifference, plan(square(), p.Lights[9:]...), p)
}

func TestSafeOrder(t *testing.T) {
	p := twoLights()
	a, b := p.Lights[0], p.Lights[1]
	at := func(id int, first int) impl.Light { return light(id, route(0, 0), first, 2) }
	safe := func(q impl.Plan, list ...impl.Action) {
		t.Helper()
		check(t, impl.SafeOrder, in(p, q), out(actions(list...), true))
	}
	safe(p)
	// Light 5 takes the place that light 3 leaves, and the other way around.
	safe(plan(p.Network, at(3, 4), at(5, 0)), move(at(3, 4)), move(at(5, 0)))
	safe(plan(p.Network, at(3, 2), at(5, 4)), move(at(5, 4)), move(at(3, 2)))
	// Lights that trade their places have no safe order, though other lights change.
	checkFails(t, impl.SafeOrder, p, plan(p.Network, at(3, 2), at(5, 0)))
	checkFails(t, impl.SafeOrder, p, plan(p.Network, at(1, 8), at(3, 2), at(5, 0)))
	check(t, impl.PlanDifference, in(p, plan(p.Network, at(3, 2), at(5, 0))), out(actions(move(at(3, 2)), move(at(5, 0))), true))
	// A light that is removed makes room for others.
	safe(plan(p.Network, at(5, 0)), remove(a), move(at(5, 0)))
	safe(plan(p.Network, at(3, 2), at(4, 0)), remove(b), move(at(3, 2)), add(at(4, 0)))
	// The removal comes first though it is not needed, and an addition waits for a move behind it.
	safe(plan(p.Network, at(1, 2), at(5, 8)), remove(a), move(at(5, 8)), add(at(1, 2)))
	safe(plan(p.Network, at(3, 2), at(5, 9), light(7, route(0, 0), 0, 1)), move(at(5, 9)), move(at(3, 2)), add(light(7, route(0, 0), 0, 1)))
	// All lights of a row move by one place, up from its end or down from its beginning.
	q := plan(square())
	p = plan(square())
	for i := range impl.MaxActions {
		p.Lights = append(p.Lights, at(i+1, 2*i))
		q.Lights = append(q.Lights, at(i+1, 2*i+2))
	}
	down, up := expectedDifference(q, p), expectedDifference(p, q)
	slices.Reverse(up)
	safe(q, up...)
	check(t, impl.SafeOrder, in(q, p), out(down, true))
	// They trade their places in a circle.
	q.Lights[7] = at(8, 0)
	checkFails(t, impl.SafeOrder, p, q)
}

// TestSafeOrderOfSamples compares plans of some lights on few slots, with all orders.
func TestSafeOrderOfSamples(t *testing.T) {
	next := numbers(202)
	direct, ordered, impossible := 0, 0, 0
	for _, n := range []impl.Network{square(), parallels(), trap(), kite(), network("a b", [4]int{0, 1, 9})} {
		routes := expectedRoutes(n)
		random := func() impl.Plan {
			p, slots := plan(n), 4+next(8)
			for id := 1; id <= 9; id++ {
				x := light(id, routes[next(min(4, len(routes)))], next(slots), 1+next(3))
				if next(4) > 0 && len(expectedColliding(p, x)) == 0 {
					p.Lights = append(p.Lights, x)
				}
			}
			return p
		}
		for range 120 {
			p, q := random(), random()
			list := expectedDifference(p, q)
			if len(list) > impl.MaxActions {
				checkFails(t, impl.PlanDifference, p, q)
				checkFails(t, impl.SafeOrder, p, q)
				continue
			}
			check(t, impl.PlanDifference, in(p, q), out(list, true))
			order, ok := expectedSafe(p, list)
			if !ok {
				checkFails(t, impl.SafeOrder, p, q)
				impossible++
				continue
			}
			check(t, impl.SafeOrder, in(p, q), out(order, true))
			if same(reflect.ValueOf(order), reflect.ValueOf(list)) {
				direct++
			} else {
				ordered++
			}
		}
	}
	if direct < 50 || ordered < 50 || impossible < 10 {
		t.Errorf("%d orders are direct, %d others, and %d impossible", direct, ordered, impossible)
	}
}

func TestIsHitless(t *testing.T) {
	p := twoLights()
	a, b := p.Lights[0], p.Lights[1]
	yes, no := out(true, true), out(false, true)
	check(t, impl.IsHitless, in(p, actions()), yes)
	check(t, impl.IsHitless, in(p, actions(remove(a), remove(b))), yes)
	check(t, impl.IsHitless, in(p, actions(remove(a), add(light(3, route(0, 0), 1, 1)))), yes)
	// Moves next to the old place, into slots of it, on other fibers, and to the old place itself.
	check(t, impl.IsHitless, in(p, actions(move(light(5, route(0, 0), 4, 2)))), yes)
	check(t, impl.IsHitless, in(p, actions(move(light(5, route(0, 0), 3, 2)))), no)
	check(t, impl.IsHitless, in(p, actions(move(light(5, route(1, 0, 1), 3, 2)))), no)
	check(t, impl.IsHitless, in(p, actions(move(light(5, route(0, 1, 3), 2, 2)))), yes)
	check(t, impl.IsHitless, in(p, actions(move(b))), no)
	// The moves of a list are compared with the places at that time.
	check(t, impl.IsHitless, in(p, actions(move(light(5, route(0, 0), 6, 2)), move(light(5, route(0, 0), 3, 2)))), yes)
	check(t, impl.IsHitless, in(p, actions(move(light(5, route(0, 0), 6, 2)), move(light(5, route(0, 0), 5, 2)))), no)
	check(t, impl.IsHitless, in(p, actions(move(light(5, route(0, 0), 3, 2)), move(light(5, route(0, 0), 8, 2)))), no)
	// Actions that cannot be applied.
	check(t, impl.IsHitless, in(p, actions(add(a))), no)
	check(t, impl.IsHitless, in(p, actions(remove(a), remove(a))), no)
	check(t, impl.IsHitless, in(p, actions(move(light(5, route(0, 0), 1, 1)))), no)
	check(t, impl.IsHitless, in(p, actions(move(light(9, route(0, 0), 9, 1)))), no)
	for _, a := range badActions() {
		check(t, impl.IsHitless, in(p, actions(remove(b), a)), no)
	}
	check(t, impl.IsHitless, in(p, slices.Repeat(actions(remove(light(9, route(0, 0), 9, 1))), impl.MaxActions)), no)
}
