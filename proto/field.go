package proto

import (
	"towline/api"
	"towline/mask"
)

// Fields of messages, in the order in which their bytes stand.
const (
	theEpoch = iota
	theTerm
	theIndex
	thePrev
	theLast
	theCommit
	theNonce
	theRound
	theYes
	theErr
	theVer
	theMode
	theBound
	theReq
	theKey
	theValue
	thePass
	theRows
	theRecs
	theTable
	theChain
	theCmd
	fields // how many there are
)

// fieldsOf is the fields that a kind of messages has; none: it is no kind.
func fieldsOf(kind int) mask.Set {
	l := [...]mask.Set{
		api.MVote:  mask.Of(theTerm, theIndex, theLast),
		api.MGrant: mask.Of(theTerm, theYes),
		api.MFeed:  mask.Of(theTerm, thePrev, theLast, theCommit, theRound, theRows),
		api.MFed:   mask.Of(theTerm, theIndex, theRound, theYes),
		api.MTell:  mask.Of(theCmd),
		api.MSure:  mask.Of(theEpoch, theNonce),
		api.MChain: mask.Of(theEpoch, theNonce, theChain),
		api.MPut:   mask.Of(theEpoch, theIndex, thePrev, theLast, theCommit, theRecs),
		api.MAck:   mask.Of(theEpoch, theCommit),
		api.MBase:  mask.Of(theEpoch, theTable),
		api.MHave:  mask.Of(theEpoch, theIndex, theYes),
		api.MAsk:   mask.Of(theEpoch, theNonce, theKey),
		api.MVer:   mask.Of(theEpoch, theNonce, theVer),
		api.MWrite: mask.Of(theReq, theKey, theValue, thePass),
		api.MRead:  mask.Of(theMode, theBound, theReq, theKey, thePass),
		api.MDone:  mask.Of(theVer, theErr, theReq, theValue, thePass, theChain),
	}
	if kind < 0 || kind >= len(l) {
		return 0
	}
	return l[kind]
}

// maxErr is the greatest number of an error.
const maxErr = 255

// parts is all fields of a message, to be asked and set there.
func parts(m *api.Msg) [fields]part {
	place := func(at *int) part { return number{at: at, most: api.MaxIndex} }
	return [fields]part{
		theEpoch:  place(&m.Epoch),
		theTerm:   place(&m.Term),
		theIndex:  place(&m.Index),
		thePrev:   place(&m.Prev),
		theLast:   place(&m.Last),
		theCommit: place(&m.Commit),
		theNonce:  place(&m.Nonce),
		theRound:  place(&m.Round),
		theYes:    flag{&m.Yes},
		theErr:    number{at: (*int)(&m.Err), most: maxErr},
		theVer:    place(&m.Ver),
		theMode:   place(&m.Mode),
		theBound:  place(&m.Bound),
		theReq:    request{&m.Req},
		theKey:    key{&m.Key},
		theValue:  value{at: &m.Value, empty: m.Kind == api.MDone},
		thePass:   pass{&m.Pass},
		theRows:   list[api.Row]{at: &m.Rows, may: isRow, of: rowBytes, next: reader.row},
		theRecs:   list[api.Record]{at: &m.Recs, may: isRecord, of: recordBytes, next: reader.record},
		theTable:  table{&m.Table},
		theChain:  chain{&m.Chain},
		theCmd:    command{&m.Cmd},
	}
}
