package console_test

import (
	"fmt"
	"testing"
)

const three = "member 0 0\nmember 1 1\nmember 2 2\nlead 0\n"

// DOC.md, example 1: a write at the head goes down three nodes, is committed at the tail, and comes up.
func TestDown(t *testing.T) {
	played(t, three+`
		write 0 0 b z
		carry 90
		write 0 0 a x
		peek 9 0 0 | write 9>0 req=0.2 key=61 value=78 pass=`+passOf(t)+`
		take 9 0 0
		of 0 a | of a 0 1 ""
		of 1 a | of a 0 0 ""
		peek 0 1 0 | put 0>1 epoch=1 index=2 prev=1 last=1 commit=1 recs=2.1.61.1.78.0.2
		take 0 1 0
		of 1 a | of a 0 1 ""
		peek 1 0 0 | have 1>0 epoch=1 index=2 yes=1
		peek 1 2 0 | put 1>2 epoch=1 index=2 prev=1 last=1 commit=1 recs=2.1.61.1.78.0.2
		show 2 | node 2 1 2 1 0 1 1 0 0
		take 1 2 0
		show 2 | node 2 1 2 1 0 2 2 0 0
		of 2 a | of a 1 1 "x"
		of 1 a | of a 0 1 ""
		peek 2 1 0 | ack 2>1 epoch=1 commit=2
		take 2 1 0
		of 1 a | of a 1 1 "x"
		show 0 | node 0 1 0 1 0 1 2 1 0
		peek 1 0 1 | ack 1>0 epoch=1 commit=2
		take 1 0 1
		show 0 | node 0 1 0 1 0 2 2 0 0
		of 0 a | of a 1 1 "x"
		judge | judge 2 true true true true
		calls 0 | calls; write b 26 37 0 1 "z"; write a 39 0 0 0 "x"
		take 0 9 0
		calls 0 | calls; write b 26 37 0 1 "z"; write a 39 45 0 1 "x"
	`)
}

// passOf is the pass of a session that has seen version 1 of b, as it stands in a message.
func passOf(t *testing.T) string {
	t.Helper()
	l := lines(t, three+"write 0 0 b z\ncarry 9\npeek 0 9 0\ncarry 90\nread 0 0 b 0 0\npeek 9 0 0\n")
	var key, pass string
	if _, err := fmt.Sscanf(l[len(l)-1], "read 9>0 req=0.2 key=%s pass=%s", &key, &pass); err != nil {
		t.Fatal(l)
	}
	return pass
}

// DOC.md, example 2: a read at the node in the middle, while a write is on its way.
func TestMiddle(t *testing.T) {
	played(t, three+`
		write 0 0 a x
		carry 90
		write 0 0 a y
		take 9 0 0
		take 0 1 0
		read 1 1 a 0 0
		take 10 1 0
		show 1 | node 1 1 1 1 0 1 2 0 1
		peek 1 2 1 | ask 1>2 epoch=1 nonce=1 key=61
		take 1 2 1
		peek 2 1 0 | ver 2>1 epoch=1 nonce=1 ver=1
		take 2 1 0
		peek 1 6 0 | sure 1>6 epoch=1 nonce=1
		net | net 0 1>0:1 1>2:1 1>6:1 1>7:1 1>8:1
		carry 90
		show 1 | node 1 1 1 1 0 2 2 0 0
		calls 1 | calls; read a 42 59 0 1 "x"
		calls 0 | calls; write a 26 37 0 1 "x"; write a 39 53 0 2 "y"
		judge | judge 2 true true true true
	`)
}

// DOC.md, example 3: the head dies; the next node is the head; the client asks there once more: the same version, once.
func TestHeadDies(t *testing.T) {
	played(t, three+`
		write 0 0 a x
		take 9 0 0
		take 0 1 0
		take 1 0 0
		take 0 1 0
		of 1 a | of a 0 1 ""
		crash 0 -1
		plan 1 1 1 | plan dead 0 0 1; chain 2 1@1 2@2
		dead 2 0 1
		carry 200
		chain | chain 2 1@1 2@2
		near 0 | near 60 1 2
		calls 0 | calls; write a 26 0 0 0 "x"
		of 2 a | of a 1 1 "x"
		again 0 1
		again 0 1
		carry 200
		calls 0 | calls; write a 26 57 0 1 "x"
		of 1 a | of a 1 1 "x"
		judge | judge 1 true true true true
		again 0 1 | error 92
		write 0 0 a y
		again 0 2
		carry 200
		of 2 a | of a 2 2 "y"
		judge | judge 2 true true true true
	`)
}

// DOC.md, examples 4 and 5: a node that is parted from all others tells nothing strong; eventual what it has, unless the session has seen a newer one.
func TestParted(t *testing.T) {
	played(t, three+`
		write 0 0 a x
		carry 90
		# node 1, with client 1
		wall 1026
		read 1 1 a 0 0
		carry 90
		tick 1 0
		carry 90
		show 1 | node 1 1 1 1 0 1 1 0 1
		calls 1 | calls; read a 40 0 0 0 ""
		drop 1
		read 1 1 a 1 9
		carry 90
		drop 1
		read 1 1 a 2 0
		carry 90
		calls 1 | calls; read a 40 0 0 0 ""; read a 52 0 0 0 ""; read a 58 60 0 1 "x"
		# the others go on without it
		dead 0 1 1
		carry 200
		chain | chain 2 0@0 2@2
		write 0 0 a y
		carry 200
		of 2 a | of a 2 2 "y"
		of 1 a | of a 1 1 "x"
		wall 2
		read 1 2 a 2 0
		carry 200
		wall 1026
		read 1 1 a 2 0
		carry 200
		calls 1 | calls; read a 40 0 0 0 ""; read a 52 0 0 0 ""; read a 58 60 0 1 "x"; read a 85 87 0 2 "y"; read a 89 0 0 0 ""
		drop 1
		fresh 1
		read 1 1 a 2 0
		carry 200
		calls 1 | calls; read a 40 0 0 0 ""; read a 52 0 0 0 ""; read a 58 60 0 1 "x"; read a 85 87 0 2 "y"; read a 89 0 0 0 ""; read a 96 98 0 1 "x"
		judge | judge 2 true true true true
	`)
}

// DOC.md, example 6: a node crashes in the midst of a record, and is opened once more: it asks to be let in; the epoch is the next one.
func TestMidst(t *testing.T) {
	for _, kept := range []string{"-1", "0", "5", "99"} {
		played(t, three+`
			write 0 0 a x
			take 9 0 0
			take 0 1 0
			take 1 0 0
			arm 1 9 `+kept+`
			take 0 1 0 | error 50
			show 1 | error 50
			of 1 a | error 50
			carry 90 | carried 0
			start 1 8 | error 1
			start 1 0
			start 1 0 | error 190
			show 1 | node 1 1 -1 0 0 0 0 0 0
			tick 1 0
			peek 1 6 0 | tell 1>6 cmd=3.1.0.1
			net | net 0 1>6:1 1>7:1 1>8:1
			carry 200
			chain | chain 2 0@0 1@1 2@2
			show 1 | node 1 2 1 1 0 0 0 0 0
			# what the head sent came ahead of the chain
			tick 0 0
			carry 200
			show 1 | node 1 2 1 1 0 1 1 0 0
			calls 0 | calls; write a 26 61 0 1 "x"
			judge | judge 1 true true true true
		`)
	}
}

// DOC.md, example 7: a site's last node joins: it is sent a table, then records; then it has all, and says so.
func TestJoins(t *testing.T) {
	tale := "member 0 0\nmember 1 1\nmember 3 2\nlead 0\n"
	for i := range 20 {
		tale += fmt.Sprintf("write %d 0 a v%d\ncarry 90\n", i%4, i)
	}
	played(t, tale+`
		show 1 | node 1 1 1 1 15 20 20 0 0
		plan 0 2 0 | plan join 2 1 1; chain 2 0@0 1@1 2@1 3@2
		join 2 1 1
		peek 2 8 0 | tell 2>8 cmd=2.2.1.1
		carry 200
		chain | chain 2 0@0 1@1 2@1* 3@2
		near 1 | near 80 1 0 3 2
		show 2 | node 2 2 2 0 0 0 0 0 0
		lead 0
		tick 1 0
		peek 1 2 0 | put 1>2 epoch=2 index=20 prev=20 last=1 commit=20
		take 1 2 0
		take 1 0 0
		take 2 1 0
		peek 1 2 0 | base 1>2 epoch=2 table=15.1 cells=61.15.763134 done=0.4.13,1.4.14,2.4.15,3.3.12
		take 1 2 0
		take 2 1 0
		peek 1 2 0 | put 1>2 epoch=2 index=20 prev=15 last=1 commit=20 recs=16.1.61.16.763135.3.4,17.1.61.17.763136.0.5,18.1.61.18.763137.1.5,19.1.61.19.763138.2.5
		carry 200
		show 2 | node 2 2 2 1 15 20 20 0 0
		chain | chain 2 0@0 1@1 2@1 3@2
		of 2 a | of a 20 20 "v19"
		judge | judge 20 true true true true
	`)
}

// DOC.md, example 8: the last node that has all is told as dead: it stays.
func TestStays(t *testing.T) {
	played(t, `
		member 0 0
		lead 0
		dead 4 0 1
		take 4 6 0 | error 83
		site 4 0 1
		lose 4 7 0
		lose 4 8 0
		take 4 6 0 | error 83
		carry 90
		chain | chain 1 0@0
		crash 0 -1
		plan 0 0 0 | plan chain 1 0@0
		plan 2 0 0 | plan join 1 0 1; dead 0 0 2; chain 3 1@0
	`)
}

// DOC.md, example 9: a message of an elder epoch comes late: it changes nothing.
func TestLate(t *testing.T) {
	played(t, three+`
		write 0 0 a x
		take 9 0 0
		dead 0 2 1
		take 0 6 0
		take 6 7 0
		take 7 6 0
		chain | chain 2 0@0 1@1
		peek 6 1 0 | chain 6>1 chain=2 members=0.0,1.1
		take 6 1 0
		show 1 | node 1 2 1 1 0 0 0 0 0
		peek 0 1 0 | put 0>1 epoch=1 index=1 prev=1 last=1
		net | net 0 0>1:1 0>7:1 0>8:1 6>0:1 6>2:1 6>3:1 6>4:1 6>5:1 6>8:1
		take 0 1 0 | error 150
		net | net 0 0>7:1 0>8:1 6>0:1 6>2:1 6>3:1 6>4:1 6>5:1 6>8:1
		show 1 | node 1 2 1 1 0 0 0 0 0
		of 1 a | of a 0 0 ""
	`)
}

// DOC.md, example 10: a thirteenth key is refused, and nothing has changed.
func TestThirteenth(t *testing.T) {
	tale := three
	for i := range 12 {
		tale += fmt.Sprintf("fresh 0\nwrite 0 0 k%d x\ncarry 90\n", i)
	}
	played(t, tale+`
		show 0 | node 0 1 0 1 0 12 12 0 0
		write 1 0 k12 x
		carry 90 | carried 2
		calls 1 | calls; write k12 150 152 7 0 "x"
		show 0 | node 0 1 0 1 0 12 12 0 0
		show 1 | node 1 1 1 1 0 12 12 0 0
		of 0 k12 | of k12 0 0 ""
		write 1 0 k3 y
		carry 90
		of 2 k3 | of k3 2 2 "y"
		judge | judge 13 true true true true
	`)
}
