package tests

import (
	"slices"
	"strings"

	"loop.example/sispass/impl"
)

// These say again, on a state as it stands and by the numbers of the document's tables, what it says of the machine.

// rerun is a program, its state, and the lists that `apply` was called with in this step.
type rerun struct {
	s       impl.CoreState
	nodes   []impl.CoreNode
	tops    []int
	applied []impl.Val
}

// rerunOf is a program that is ok and has not begun.
func rerunOf(list []impl.ExpCore) *rerun {
	code := flatAgain(list)
	r := &rerun{nodes: code.Nodes, tops: code.Tops}
	r.s.Mode = 3
	r.s.Env, r.s.Frame, r.s.Wind, r.s.Hand, r.s.Bind = -1, -1, -1, -1, -1
	if len(r.tops) == 0 {
		r.s.Stop = 1
	}
	return r
}

// coreAtAgain is what CoreAt is to answer of a program that is not endless.
func coreAtAgain(list []impl.ExpCore, steps int) impl.CoreState {
	if !okAgain(list) {
		return impl.CoreState{}
	}
	r := rerunOf(list)
	for r.s.Stop == 0 && r.s.Steps < steps {
		r.step()
	}
	return r.s
}

// noteAgain is what a state has noted.
func noteAgain(s impl.CoreState) int {
	return len(s.Frames) + len(s.Envs) + len(s.Cells) + len(s.Pairs) + len(s.Closures) + len(s.Winds) + len(s.Hands) + len(s.Binds) + len(s.Conts) + len(s.Errors) + len(s.Params)
}

func (r *rerun) step() {
	s := &r.s
	s.Steps++
	r.applied = nil
	switch s.Mode {
	case 1:
		r.part()
	case 2:
		r.values()
	case 3:
		if s.Top >= len(r.tops) {
			s.Stop = 1
			break
		}
		s.Top++
		s.Wind, s.Hand, s.Bind = -1, -1, -1
		r.goOn(r.tops[s.Top-1], -1)
	}
	if s.Stop != 0 {
		return
	}
	if s.Deepest > 300 {
		s.Stop = 6
	} else if noteAgain(*s) > 3000 {
		s.Stop = 3
	} else if s.Steps == 5000 {
		s.Stop = 2
	}
}

func (r *rerun) goOn(node int, env int) {
	r.s.Mode, r.s.Node, r.s.Env, r.s.Vals = 1, node, env, nil
}

func (r *rerun) give(list ...impl.Val) {
	r.s.Mode, r.s.Vals = 2, list
}

func (r *rerun) push(kind, node, env, at int, list ...impl.Val) {
	s := &r.s
	f := impl.CoreFrame{Kind: kind, Node: node, Env: env, At: at, Vals: list, Next: s.Frame, Wind: s.Wind, Hand: s.Hand, Bind: s.Bind, Deep: 1}
	if s.Frame != -1 {
		f.Deep = 1 + s.Frames[s.Frame].Deep
	}
	s.Frame = len(s.Frames)
	s.Frames = append(s.Frames, f)
	if s.Deepest < f.Deep {
		s.Deepest = f.Deep
	}
}

func (r *rerun) fail(text string) {
	r.s.Errors = append(r.s.Errors, impl.CoreErr{Text: text, List: null})
	r.raise(placed(12, len(r.s.Errors)-1), 12)
}

func (r *rerun) raise(v impl.Val, kind int) {
	if r.s.Hand == -1 {
		r.s.Stop = 5
		r.s.Fault, _ = coreShowAgain(r.s, v)
		return
	}
	h := r.s.Hands[r.s.Hand]
	r.push(kind, 0, 0, 0)
	r.s.Hand = h.Next
	r.call(h.Proc, v)
}

// newName is a name, its cell, and what is known around it.
func (r *rerun) newName(name string, v impl.Val, around int) int {
	r.s.Cells = append(r.s.Cells, v)
	r.s.Envs = append(r.s.Envs, impl.CoreEnv{Name: name, Cell: len(r.s.Cells) - 1, Next: around})
	return len(r.s.Envs) - 1
}

func (r *rerun) part() {
	s := &r.s
	here, env := s.Node, s.Env
	n := r.nodes[here]
	switch n.Sort {
	case 1:
		r.give(r.constant(n.Text))
	case 2:
		cell := r.cell(n.Text, env)
		_, plain := plainTakes[n.Text]
		switch {
		case cell >= 0 && s.Cells[cell].Kind == 0:
			r.fail("not yet")
		case cell >= 0:
			r.give(s.Cells[cell])
		case plain || slices.Contains(callsOthers, n.Text):
			r.give(prim(n.Text))
		default:
			r.fail("unbound " + n.Text)
		}
	case 3:
		s.Closures = append(s.Closures, impl.CoreClosure{Node: here, Env: env})
		r.give(placed(7, len(s.Closures)-1))
	case 4, 5, 6, 9:
		r.push(map[int]int{5: 1, 4: 3, 6: 4, 9: 5}[n.Sort], here, env, 0)
		r.goOn(n.Kids[0], env)
	case 7:
		if len(n.Kids) > 1 {
			r.push(2, here, env, 0)
		}
		r.goOn(n.Kids[0], env)
	case 8:
		for _, name := range n.Names {
			env = r.newName(name, impl.Val{}, env)
		}
		r.push(6, here, env, 0)
		r.goOn(n.Kids[0], env)
	}
}

// cell is the place of a name's cell, or -1.
func (r *rerun) cell(name string, env int) int {
	for ; env != -1; env = r.s.Envs[env].Next {
		if r.s.Envs[env].Name == name {
			return r.s.Envs[env].Cell
		}
	}
	return r.global(name)
}

func (r *rerun) global(name string) int {
	for _, g := range r.s.Globals {
		if g.Name == name {
			return g.Cell
		}
	}
	return -1
}

func (r *rerun) constant(text string) impl.Val {
	data, _ := dataAgain(strings.TrimPrefix(text, "'"))
	return r.quoted(data[0])
}

func (r *rerun) quoted(one any) impl.Val {
	list, isList := one.([]any)
	if !isList {
		word := one.(string)
		switch {
		case word == "#t":
			return yes
		case word == "#f":
			return no
		case word[0] == '"':
			return str(word[1 : len(word)-1])
		case literalAgain(word):
			return num(word)
		}
		return sym(word)
	}
	kids, end, ends, _ := endAgain(list)
	made := null
	if ends {
		made = r.quoted(end)
	}
	for i := len(kids) - 1; i >= 0; i-- {
		own := r.quoted(kids[i])
		made = pairIn(&r.s, own, made)
	}
	return made
}

func (r *rerun) values() {
	s := &r.s
	if s.Frame == -1 {
		s.Mode, s.Vals = 3, nil
		return
	}
	f, came := s.Frames[s.Frame], s.Vals
	s.Frame, s.Wind, s.Hand, s.Bind = f.Next, f.Wind, f.Hand, f.Bind
	n := r.nodes[max(f.Node, 0)]
	if slices.Contains([]int{1, 3, 4, 5, 6}, f.Kind) && len(came) != 1 {
		r.fail("not one value")
		return
	}
	switch f.Kind {
	case 1:
		if came[0] != no {
			r.goOn(n.Kids[1], f.Env)
		} else if len(n.Kids) == 3 {
			r.goOn(n.Kids[2], f.Env)
		} else {
			r.give(none)
		}
	case 2, 6:
		if f.Kind == 6 {
			s.Cells[r.cell(n.Names[f.At], f.Env)] = came[0]
		}
		if f.At+1 != len(n.Kids)-1 {
			r.push(f.Kind, f.Node, f.Env, f.At+1)
		}
		r.goOn(n.Kids[f.At+1], f.Env)
	case 3:
		all := append(slices.Clone(f.Vals), came[0])
		if len(all) == len(n.Kids) {
			r.call(all[0], all[1:]...)
		} else {
			r.push(3, f.Node, f.Env, 0, all...)
			r.goOn(n.Kids[len(all)], f.Env)
		}
	case 4:
		cell := r.cell(n.Text, f.Env)
		if cell < 0 {
			r.fail("unbound " + n.Text)
			return
		}
		s.Cells[cell] = came[0]
		r.give(none)
	case 5:
		if r.global(n.Text) < 0 {
			s.Cells = append(s.Cells, impl.Val{})
			s.Globals = append(s.Globals, impl.CoreEnv{Name: n.Text, Cell: len(s.Cells) - 1, Next: -1})
		}
		s.Cells[r.global(n.Text)] = came[0]
		r.give(none)
	default:
		r.otherValues(f, came)
	}
}

// otherValues is what is done with the frames that no part pushes.
func (r *rerun) otherValues(f impl.CoreFrame, came []impl.Val) {
	s := &r.s
	switch f.Kind {
	case 7:
		r.call(f.Vals[0], came...)
	case 8:
		r.push(9, 0, 0, 0, f.Vals[2])
		s.Winds = append(s.Winds, impl.CoreWind{Before: f.Vals[0], After: f.Vals[2], Next: s.Wind})
		s.Wind = len(s.Winds) - 1
		r.call(f.Vals[1])
	case 9:
		r.push(10, 0, 0, 0, came...)
		r.call(f.Vals[0])
	case 10:
		r.give(f.Vals...)
	case 11:
		if f.Node >= 0 {
			s.Wind = f.Node
		}
		r.leap(f.At, f.Vals)
	case 12:
		s.Hand = s.Hands[s.Hand].Next
		r.fail("a handler came back")
	case 13:
		r.give(came...)
	}
}

func (r *rerun) call(proc impl.Val, with ...impl.Val) {
	s := &r.s
	switch proc.Kind {
	case 7:
		r.callClosure(s.Closures[proc.At], with)
	case 8:
		r.callPrim(proc.Text, with)
	case 9:
		r.leap(proc.At, with)
	case 11:
		if len(with) > 0 {
			r.fail("wrong number for a parameter")
			return
		}
		v := s.Params[proc.At]
		for b := s.Bind; b != -1; b = s.Binds[b].Next {
			if s.Binds[b].Param == proc.At {
				v = s.Binds[b].Value
				break
			}
		}
		r.give(v)
	default:
		r.fail("not a procedure")
	}
}

func (r *rerun) callClosure(c impl.CoreClosure, with []impl.Val) {
	n := r.nodes[c.Node]
	count, env := len(n.Names), c.Env
	if !n.Rest && len(with) != count || n.Rest && len(with) < count-1 {
		r.fail("wrong number for a procedure")
		return
	}
	for i, name := range n.Names {
		if n.Rest && i == count-1 {
			env = r.newName(name, listIn(&r.s, with[i:]...), env)
		} else {
			env = r.newName(name, with[i], env)
		}
	}
	r.goOn(n.Kids[0], env)
}

// callerTakes is how many values each name takes of those that call others.
var callerTakes = map[string][2]int{
	"apply": {2, 2}, "call-with-values": {2, 2}, "call/cc": {1, 1}, "dynamic-wind": {3, 3}, "error": {1, 99}, "raise": {1, 1},
	"raise-continuable": {1, 1}, "values": {0, 99}, "with-exception-handler": {2, 2}, "with-parameter": {3, 3},
}

func (r *rerun) callPrim(name string, with []impl.Val) {
	takes, isCaller := callerTakes[name]
	if !isCaller {
		takes = plainTakes[name]
	}
	if len(with) < takes[0] || len(with) > takes[1] {
		r.fail("wrong number for " + name)
		return
	}
	if isCaller {
		r.callCaller(name, with)
		return
	}
	// With a code nothing is to be left behind, and nothing is, as it is only told of values ahead of all that changes the state.
	v, code := doAgain(&r.s, name, with)
	switch code {
	case 0:
		r.give(v)
	case 4:
		r.fail("too big for " + name)
	default:
		r.fail("wrong value for " + name)
	}
}

func (r *rerun) callCaller(name string, with []impl.Val) {
	s := &r.s
	switch name {
	case "values":
		r.give(with...)
	case "apply":
		if parts, ok := r.partsOf(with[1]); ok {
			r.call(with[0], parts...)
		} else {
			r.fail("wrong value for apply")
		}
	case "call-with-values":
		r.push(7, 0, 0, 0, with[1])
		r.call(with[0])
	case "call/cc":
		s.Conts = append(s.Conts, impl.CoreCont{Frame: s.Frame, Wind: s.Wind, Hand: s.Hand, Bind: s.Bind})
		r.call(with[0], placed(9, len(s.Conts)-1))
	case "dynamic-wind":
		r.push(8, 0, 0, 0, with...)
		r.call(with[0])
	case "raise":
		r.raise(with[0], 12)
	case "raise-continuable":
		r.raise(with[0], 13)
	case "error":
		if with[0].Kind != 3 {
			r.fail("wrong value for error")
			return
		}
		list := listIn(s, with[1:]...)
		s.Errors = append(s.Errors, impl.CoreErr{Text: with[0].Text, List: list})
		r.raise(placed(12, len(s.Errors)-1), 12)
	case "with-exception-handler":
		r.push(13, 0, 0, 0)
		s.Hands = append(s.Hands, impl.CoreHand{Proc: with[0], Next: s.Hand})
		s.Hand = len(s.Hands) - 1
		r.call(with[1])
	case "with-parameter":
		if with[0].Kind != 11 {
			r.fail("wrong value for with-parameter")
			return
		}
		r.push(13, 0, 0, 0)
		s.Binds = append(s.Binds, impl.CoreBind{Param: with[0].At, Value: with[1], Next: s.Bind})
		s.Bind = len(s.Binds) - 1
		r.call(with[2])
	}
}

// partsOf is the parts of a list of at most 100. A list that comes again within one step is none, as else it would come without end.
func (r *rerun) partsOf(list impl.Val) ([]impl.Val, bool) {
	if list != null && slices.Contains(r.applied, list) {
		return nil, false
	}
	r.applied = append(r.applied, list)
	var parts []impl.Val
	for list.Kind == 6 && len(parts) <= 100 {
		parts = append(parts, r.s.Pairs[list.At].Car)
		list = r.s.Pairs[list.At].Cdr
	}
	return parts, list.Kind == 5 && len(parts) <= 100
}

func (r *rerun) leap(at int, with []impl.Val) {
	s := &r.s
	to := s.Conts[at]
	if s.Wind == to.Wind {
		s.Frame, s.Hand, s.Bind = to.Frame, to.Hand, to.Bind
		r.give(with...)
		return
	}
	way := []int{} // From the cont's own outward, and none behind them.
	for w := to.Wind; w != -1; w = s.Winds[w].Next {
		way = append(way, w)
	}
	way = append(way, -1)
	place := slices.Index(way, s.Wind)
	if place < 0 {
		was := s.Winds[s.Wind]
		s.Wind = was.Next
		r.push(11, -1, 0, at, with...)
		r.call(was.After)
		return
	}
	r.push(11, way[place-1], 0, at, with...)
	r.call(s.Winds[way[place-1]].Before)
}
