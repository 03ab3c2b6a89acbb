package world

import (
	"errors"

	"towline/api"
	"towline/client"
	"towline/mask"
)

// everybody is all places; a wall knows of no others.
const everybody mask.Set = 1<<places - 1

// longest is the greatest timeout that one can be started with.
const longest = 7

// taker is whoever takes messages.
type taker interface {
	Take(b []byte) ([]api.Frame, api.Errno)
}

// listener is a client at a time. Nodes and masters know of none.
type listener struct {
	*client.Client
	now int
}

// Take takes bytes at that time.
func (l listener) Take(b []byte) ([]api.Frame, api.Errno) { return l.Client.Take(b, l.now) }

// refusal is why a step came to nothing, and who said so.
type refusal struct {
	error
	place int
}

// Unwrap is the reason alone.
func (r refusal) Unwrap() error { return r.error }

// unless is a reason as an error; none, if all went well.
func unless(why api.Errno) error {
	if why == api.OK {
		return nil
	}
	return why
}

// Step does a step: why it came to nothing.
func (w *World) Step(s api.Step) api.Errno {
	if !w.made() {
		return api.ErrNil
	}
	w.time++
	err := w.do(s)
	why := api.OK
	errors.As(err, &why)
	// That a message found nobody is the same reason, but nobody's.
	var by refusal
	if why == api.ErrDown && errors.As(err, &by) {
		w.stop(by.place)
	}
	return why
}

// do does what a step of its kind does.
func (w *World) do(s api.Step) error {
	link := api.Link{From: s.From, To: s.To}
	switch s.Kind {
	case api.STake:
		return w.take(link, s.N)
	case api.SLose:
		return unless(w.net.Lose(link, s.N))
	case api.SDouble:
		return unless(w.net.Double(link, s.N))
	case api.SWall:
		return unless(w.net.Wall(everybody.And(mask.Set(s.N))))
	case api.STick, api.SCrash, api.SArm:
		return w.drive(s)
	case api.SStart:
		return w.start(s.From, s.Timeout)
	case api.SWrite, api.SRead, api.SAgain, api.SDrop, api.SFresh:
		return w.ask(s)
	case api.SReport, api.SJoin:
		return w.tell(s)
	}
	return api.ErrStep
}

// say sends what somebody at a place told, or is why that told nothing. What finds no room on its link is lost: nobody hears of it.
func (w *World) say(place int, l []api.Frame, why api.Errno) error {
	if why != api.OK {
		return refusal{error: why, place: place}
	}
	for _, f := range l {
		w.net.Send(api.Link{From: f.From, To: f.To}, f.Data)
	}
	return nil
}

// take lets a message of a link come.
func (w *World) take(l api.Link, i int) error {
	b, through, e := w.net.Take(l, i)
	if e != api.OK || !through {
		return unless(e)
	}
	t := w.taker(l.To)
	if t == nil {
		return api.ErrDown
	}
	frames, e := t.Take(b)
	return w.say(l.To, frames, e)
}

// taker is who takes messages at a place; nil: nobody runs there.
func (w *World) taker(place int) taker {
	if n := w.Node(place); n != nil {
		return n
	}
	if m := w.Master(place - firstMaster); m != nil {
		return m
	}
	if c := w.Client(place - firstClient); c != nil {
		return listener{Client: c, now: w.time}
	}
	return nil
}

// drive lets time pass for one that runs, or takes its power, now or later.
func (w *World) drive(s api.Step) error {
	if !w.runs(s.From) {
		return api.ErrStep
	}
	d := w.disks[s.From]
	switch s.Kind {
	case api.SCrash:
		w.stop(s.From)
		return unless(d.Crash(s.N, s.N))
	case api.SArm:
		return unless(d.Arm(s.N, s.To, s.To))
	}
	frames, e := w.tick(s.From, s.Timeout)
	return w.say(s.From, frames, e)
}

// tick lets time pass for one that runs.
func (w *World) tick(place, timeout int) ([]api.Frame, api.Errno) {
	if n := w.Node(place); n != nil {
		return n.Tick()
	}
	return w.Master(place - firstMaster).Tick(timeout)
}

// start opens one that does not run once more. The power is there also if the timeout is refused then.
func (w *World) start(place, timeout int) error {
	if place < 0 || place >= firstClient || w.runs(place) {
		return api.ErrStep
	}
	w.disks[place].Start()
	if timeout < 0 || timeout > longest {
		return api.ErrArg
	}
	return unless(w.open(place, timeout))
}

// ask is what a client does.
func (w *World) ask(s api.Step) error {
	c := w.Client(s.From)
	if c == nil {
		return api.ErrStep
	}
	var frames []api.Frame
	var e api.Errno
	switch s.Kind {
	case api.SWrite:
		frames, e = c.Write(s.To, s.Key, s.Value, w.time)
	case api.SRead:
		frames, e = c.Read(s.To, s.Key, s.Mode, s.Bound, w.time)
	case api.SAgain:
		frames, e = c.Again(s.To)
	case api.SDrop:
		e = c.Drop()
	case api.SFresh:
		e = c.Fresh()
	}
	return w.say(firstClient+s.From, frames, e)
}

// tell is what a node tells the masters.
func (w *World) tell(s api.Step) error {
	n := w.Node(s.From)
	if n == nil {
		return api.ErrStep
	}
	if s.Kind == api.SReport {
		frames, e := n.Report(s.Cmd)
		return w.say(s.From, frames, e)
	}
	frames, e := n.Join(s.To, s.N)
	return w.say(s.From, frames, e)
}
