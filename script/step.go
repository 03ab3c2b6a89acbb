package script

import (
	"strings"

	"towline/api"
)

// Step is the step that a line is; false: it is a question, or several.
func Step(l api.Line) (api.Step, bool) {
	signs, ok := behind(l.Word)
	if !ok || strings.Count(signs, string(aNumber)) != len(l.N) {
		return api.Step{}, false
	}
	// What a line has fewer of is 0, and none of its step's.
	var n [4]int
	copy(n[:], l.N)
	switch l.Word {
	case "take":
		return api.Step{Kind: api.STake, From: n[0], To: n[1], N: n[2]}, true
	case "lose":
		return api.Step{Kind: api.SLose, From: n[0], To: n[1], N: n[2]}, true
	case "double":
		return api.Step{Kind: api.SDouble, From: n[0], To: n[1], N: n[2]}, true
	case "wall":
		return api.Step{Kind: api.SWall, N: n[0]}, true
	case "tick":
		return api.Step{Kind: api.STick, From: n[0], Timeout: n[1]}, true
	case "start":
		return api.Step{Kind: api.SStart, From: n[0], Timeout: n[1]}, true
	case "crash":
		return api.Step{Kind: api.SCrash, From: n[0], N: n[1]}, true
	case "arm":
		return api.Step{Kind: api.SArm, From: n[0], N: n[1], To: n[2]}, true
	case "write":
		return api.Step{Kind: api.SWrite, From: n[0], To: n[1], Key: l.Key, Value: l.Value}, true
	case "read":
		return api.Step{Kind: api.SRead, From: n[0], To: n[1], Key: l.Key, Mode: n[2], Bound: n[3]}, true
	case "again":
		return api.Step{Kind: api.SAgain, From: n[0], To: n[1]}, true
	case "drop":
		return api.Step{Kind: api.SDrop, From: n[0]}, true
	case "fresh":
		return api.Step{Kind: api.SFresh, From: n[0]}, true
	case "join":
		return api.Step{Kind: api.SJoin, From: n[0], To: n[1], N: n[2]}, true
	case "dead":
		return report(n[0], api.Command{Kind: api.CDead, Node: n[1], Epoch: n[2]}), true
	case "anew":
		return report(n[0], api.Command{Kind: api.CAgain, Node: n[1], Epoch: n[2]}), true
	case "site":
		return report(n[0], api.Command{Kind: api.CSite, Site: n[1], Epoch: n[2]}), true
	}
	return api.Step{}, false
}

// report is that a node tells masters something.
func report(from int, c api.Command) api.Step {
	return api.Step{Kind: api.SReport, From: from, Cmd: c}
}
