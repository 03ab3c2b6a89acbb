package console

import (
	"towline/api"
	"towline/mask"
	"towline/script"
	"towline/shelf"
	"towline/world"
)

// firstMaster is where masters stand, behind the nodes.
const firstMaster = api.MaxNodes

// mostCarried is how many messages one line can let come.
const mostCarried = 1000

// To make a master lead: how often time passes for it at most, and how many messages come behind that.
const (
	mostTicks   = 12
	carriedThen = 200
)

// book is records that were committed, by their index.
type book map[int]api.Record

// note puts into the book what a shelf has, and committed, behind its table.
func (b book) note(s *shelf.Shelf) {
	l, _ := s.Behind(s.Low(), s.Commit()-s.Low())
	for _, r := range l {
		b[r.Index] = r
	}
}

// row is the records from the first index on, up to the first that is lacking.
func (b book) row() []api.Record {
	var l []api.Record
	for i := range len(b) {
		r, there := b[1+i]
		if !there {
			break
		}
		l = append(l, r)
	}
	return l
}

// stage is a world, and what was seen committed in it. Tables tell no records: whoever asks later would not find them at any node.
type stage struct {
	book
	world *world.World
}

// play does what a line says: what it tells.
func (s *stage) play(l api.Line) string {
	if x, ok := script.Step(l); ok {
		return errorText(s.step(x))
	}
	switch l.Word {
	case "carry":
		return s.carryLine(l.N[0])
	case "lead":
		return s.lead(l.N[0])
	case "show":
		return s.show(l.N[0])
	case "calls":
		return s.calls(l.N[0])
	case "of":
		return s.of(l.N[0], l.Key)
	case "chain":
		return chainText(s.newest())
	case "judge":
		return s.judged()
	case "net":
		return s.net()
	case "peek":
		return s.peek(api.Link{From: l.N[0], To: l.N[1]}, l.N[2])
	case "plan":
		return s.planned(api.Wish{l.N[0], l.N[1], l.N[2]})
	}
	return s.near(l.N[0])
}

// step does a step, and looks what is committed behind it.
func (s *stage) step(x api.Step) api.Errno {
	e := s.world.Step(x)
	for _, i := range s.alive().All() {
		s.note(s.world.Node(i).State().Shelf())
	}
	return e
}

// alive is the nodes that run. One that stands still says nothing any more: it is as good as down.
func (s *stage) alive() mask.Set {
	var l mask.Set
	for i := range api.MaxNodes {
		if s.world.Node(i).State() != nil {
			l = l.With(i)
		}
	}
	return l
}

// carry lets messages come, at most so many, always the first one of the first link: how many came.
func (s *stage) carry(most int) int {
	for i := range most {
		busy := s.world.Net().Busy()
		if len(busy) == 0 {
			return i
		}
		s.step(api.Step{Kind: api.STake, From: busy[0].From, To: busy[0].To})
	}
	return most
}

func (s *stage) carryLine(most int) string {
	if most < 0 || most > mostCarried {
		return errorText(api.ErrArg)
	}
	return told("carried", s.carry(most))
}

// lead lets time pass for a master, until it leads. A leader tells the chain when time passes: so it does once more then.
func (s *stage) lead(id int) string {
	for range mostTicks {
		led := s.world.Master(id).View().Role == api.Leads
		if e := s.step(api.Step{Kind: api.STick, From: firstMaster + id}); e != api.OK {
			return errorText(e)
		}
		s.carry(carriedThen)
		if led {
			break
		}
	}
	v := s.world.Master(id).View()
	return told("lead", v.Role, v.Hard.Term, v.Commit, v.Len)
}

// newest is the chain of the greatest epoch that a master knows of.
func (s *stage) newest() api.Chain {
	var c api.Chain
	for i := range api.Masters {
		if d := s.world.Master(i).Chain(); d.Epoch > c.Epoch {
			c = d
		}
	}
	return c
}
