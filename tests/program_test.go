package tests

import (
	"fmt"
	"go/ast"
	"go/parser"
	"go/token"
	"maps"
	"path/filepath"
	"reflect"
	"slices"
	"strings"
	"testing"

	"loop.example/g00072/impl"
)

// Every function of the program, a row of chapters each.
func theProgram() map[string]any {
	return map[string]any{
		"IvalOk": impl.IvalOk, "Wide": impl.Wide, "Holds": impl.Holds, "Within": impl.Within, "Shift": impl.Shift, "Spread": impl.Spread, "Meet": impl.Meet, "Join": impl.Join, "MeetAll": impl.MeetAll, "JoinAll": impl.JoinAll, "Apart": impl.Apart, "Middle": impl.Middle, "Nearest": impl.Nearest, "PlusIval": impl.PlusIval, "LessIval": impl.LessIval,
		"DriftOk": impl.DriftOk, "MayCount": impl.MayCount, "LeastTime": impl.LeastTime, "MostTime": impl.MostTime, "LeastCount": impl.LeastCount, "MostCount": impl.MostCount, "Between": impl.Between, "Clamp": impl.Clamp, "Worse": impl.Worse,
		"OscOk": impl.OscOk, "OscStep": impl.OscStep, "OscRun": impl.OscRun, "MarksOk": impl.MarksOk, "MarksAll": impl.MarksAll, "ElapsedAt": impl.ElapsedAt, "CountWhen": impl.CountWhen, "TimeWhen": impl.TimeWhen,
		"MsgOk": impl.MsgOk, "PutNum": impl.PutNum, "GetNum": impl.GetNum, "Fold": impl.Fold, "Unfold": impl.Unfold, "Check8": impl.Check8, "Pack": impl.Pack, "Unpack": impl.Unpack, "JoinMsgs": impl.JoinMsgs, "SplitMsgs": impl.SplitMsgs,
		"NetOk": impl.NetOk, "NetSend": impl.NetSend, "NetTake": impl.NetTake, "NetDrop": impl.NetDrop, "NetDouble": impl.NetDouble, "NetMove": impl.NetMove, "NetFor": impl.NetFor, "NetOldest": impl.NetOldest, "NetCut": impl.NetCut,
		"LocalOk": impl.LocalOk, "CarryOn": impl.CarryOn, "Rebase": impl.Rebase, "Learn": impl.Learn, "Narrow": impl.Narrow, "WidthAt": impl.WidthAt, "KnownFor": impl.KnownFor,
		"NonceOf": impl.NonceOf, "NonceParts": impl.NonceParts, "TableOk": impl.TableOk, "Issue": impl.Issue, "Use": impl.Use, "ExpireAsks": impl.ExpireAsks, "Again": impl.Again, "Reboot": impl.Reboot, "Waits": impl.Waits,
		"RoundBound": impl.RoundBound, "TripOk": impl.TripOk, "TripBound": impl.TripBound, "CarryTrip": impl.CarryTrip, "TripsMeet": impl.TripsMeet, "BestTrip": impl.BestTrip, "TripLoss": impl.TripLoss, "TripFits": impl.TripFits,
		"SourcesOk": impl.SourcesOk, "CoverAt": impl.CoverAt, "CoverRuns": impl.CoverRuns, "HullOf": impl.HullOf, "HullBySubsets": impl.HullBySubsets, "MostCover": impl.MostCover, "FuseInto": impl.FuseInto, "Missing": impl.Missing,
		"PeersOk": impl.PeersOk, "PeerPut": impl.PeerPut, "PeersFresh": impl.PeersFresh, "PeersCarried": impl.PeersCarried, "PeersMark": impl.PeersMark, "PeerDrop": impl.PeerDrop, "PeersSure": impl.PeersSure, "PeerAge": impl.PeerAge,
		"FracOk": impl.FracOk, "FracOf": impl.FracOf, "FracCmp": impl.FracCmp, "RateOf": impl.RateOf, "RateOfDrift": impl.RateOfDrift, "RatesMeet": impl.RatesMeet, "RateCarry": impl.RateCarry, "RateBroken": impl.RateBroken,
		"AppOk": impl.AppOk, "AppRead": impl.AppRead, "AppLag": impl.AppLag, "AppRun": impl.AppRun, "ReadsOk": impl.ReadsOk,
		"PlanOk": impl.PlanOk, "RoundOf": impl.RoundOf, "SlotFrom": impl.SlotFrom, "Occurrence": impl.Occurrence, "SlotAt": impl.SlotAt, "InSlot": impl.InSlot, "NextOwn": impl.NextOwn, "OwnersOf": impl.OwnersOf, "ShareOf": impl.ShareOf, "PlanMoved": impl.PlanMoved,
		"GateSpan": impl.GateSpan, "GateAsk": impl.GateAsk, "BusyStill": impl.BusyStill, "GateWait": impl.GateWait, "GateBudget": impl.GateBudget,
		"FrameOk": impl.FrameOk, "BusOk": impl.BusOk, "BusPut": impl.BusPut, "BusClashes": impl.BusClashes, "BusStray": impl.BusStray, "BusLoad": impl.BusLoad, "BusQuiet": impl.BusQuiet, "BusHeard": impl.BusHeard, "BusOf": impl.BusOf,
		"HeardOk": impl.HeardOk, "Hear": impl.Hear, "HeardNow": impl.HeardNow, "HeardLost": impl.HeardLost, "HeardUnlike": impl.HeardUnlike, "HeardOwners": impl.HeardOwners,
		"LifeOk": impl.LifeOk, "LifeMay": impl.LifeMay, "LifeStep": impl.LifeStep, "LifeRun": impl.LifeRun, "LifeKnows": impl.LifeKnows, "LifeSends": impl.LifeSends, "LifeName": impl.LifeName,
		"CfgOk": impl.CfgOk, "NodeOk": impl.NodeOk, "NewNode": impl.NewNode, "NodeBoot": impl.NodeBoot, "NodeCrash": impl.NodeCrash, "NodeNow": impl.NodeNow, "NodeFix": impl.NodeFix, "NodeAsk": impl.NodeAsk, "NodeTick": impl.NodeTick, "NodeGet": impl.NodeGet, "NodeFuse": impl.NodeFuse, "NodeRead": impl.NodeRead, "NodeSend": impl.NodeSend, "NodeTrue": impl.NodeTrue,
		"WorldOk": impl.WorldOk, "NewWorld": impl.NewWorld, "OpOk": impl.OpOk, "WorldDo": impl.WorldDo, "WorldRun": impl.WorldRun, "WorldLies": impl.WorldLies, "WorldFalse": impl.WorldFalse, "WorldClean": impl.WorldClean, "WorldLooks": impl.WorldLooks,
		"TellsOf": impl.TellsOf, "JudgeReads": impl.JudgeReads, "JudgeNonces": impl.JudgeNonces, "JudgeFuses": impl.JudgeFuses, "JudgeFrames": impl.JudgeFrames, "JudgeTally": impl.JudgeTally, "JudgeWorld": impl.JudgeWorld,
		"TextOf": impl.TextOf, "NumOf": impl.NumOf, "HexOf": impl.HexOf, "FromHex": impl.FromHex, "OpLine": impl.OpLine, "ParseOp": impl.ParseOp, "ScriptText": impl.ScriptText, "ParseScript": impl.ParseScript,
		"IvalText": impl.IvalText, "TellLine": impl.TellLine, "ShowNode": impl.ShowNode, "ShowNet": impl.ShowNet, "ShowBus": impl.ShowBus, "DeskLine": impl.DeskLine, "Session": impl.Session,
	}
}

func TestNoFunctionIsLeftOut(t *testing.T) {
	files, err := filepath.Glob("../impl/*.go")
	if err != nil {
		t.Fatal(err)
	}
	found := map[string]bool{}
	for _, file := range files {
		if strings.HasSuffix(file, "_test.go") {
			continue
		}
		parsed, err := parser.ParseFile(token.NewFileSet(), file, nil, parser.SkipObjectResolution)
		if err != nil {
			t.Fatal(err)
		}
		for _, d := range parsed.Decls {
			if f, ok := d.(*ast.FuncDecl); ok && f.Recv == nil && f.Name.IsExported() {
				found[f.Name.Name] = true
			}
		}
	}
	for name := range found {
		if theProgram()[name] == nil {
			t.Error(name, "is not called here")
		}
	}
	if len(found) != len(theProgram()) {
		t.Error(len(found), "found, and", len(theProgram()), "called")
	}
}

// Where arguments come from: a world and what is in it, so that they often fit each other, what is drawn by itself, and numbers far out.
type supply struct {
	draw *lottery
	w    impl.World
}

func (s supply) number() int {
	l := s.draw
	place := l.number(len(s.w.Counts))
	near := []int{s.w.Time, s.w.Counts[place], s.w.Counts[place] + l.number(9), s.w.Time - l.number(20), place, place, l.number(4), l.number(16), l.number(100)}
	switch l.number(6) {
	case 0:
		return edgeNumbers()[l.number(len(edgeNumbers()))]
	case 1:
		return l.number(1000) - 20
	case 2, 3:
		// Whose slot it is, and when.
		at, _ := impl.Occurrence(s.w.Cfg.Plan, 0, 0)
		return []int{s.w.Cfg.Plan.Slots[0].Owner, at.Lo, at.Lo + 1}[l.number(3)]
	}
	return near[l.number(len(near))]
}

func (s supply) text() string {
	l := s.draw
	switch l.number(6) {
	case 0:
		return l.changedScript()
	case 1:
		return l.deskLine(s.w)
	case 2:
		return l.bytesText(70)
	case 3:
		return wantHexOf(l.bytesText(impl.MaxBytes))
	case 4:
		return wantTextOf(s.number())
	}
	return strings.Repeat("x", l.number(impl.MaxBody+1))
}

func (s supply) trip() impl.Trip {
	sent := s.draw.number(9)
	return impl.Trip{From: s.draw.number(impl.MaxNodes), Said: s.draw.around(s.draw.number(20), 90), Sent: sent, Got: sent + s.draw.number(2)}
}

// What an oscillator counts that is right.
func (s supply) marks() []impl.Mark {
	var list []impl.Mark
	at := s.draw.number(3)
	for range 1 + s.draw.number(9) {
		list = append(list, mk(at, at))
		at += s.draw.number(9)
	}
	return list
}

// What is mostly right of its type; nil, where it is made of its parts alone.
func (s supply) right(of reflect.Type) any {
	l, w := s.draw, s.w
	n := w.Nodes[l.number(len(w.Nodes))]
	switch reflect.Zero(of).Interface().(type) {
	case impl.World:
		return w
	case impl.Cfg:
		return w.Cfg
	case impl.Plan:
		return w.Cfg.Plan
	case impl.Drift:
		return w.Cfg.Drift
	case impl.Node:
		return n
	case impl.Local:
		return n.Local
	case impl.Table:
		return n.Table
	case impl.App:
		return n.App
	case impl.Life:
		return n.Life
	case impl.Net:
		return w.Net
	case impl.Op:
		return l.op(1+l.number(14), w)
	case impl.Told:
		return l.told(3, 5)
	case impl.Ival:
		return l.sources(1, 60)[0]
	case impl.Frac:
		return l.frac()
	case []impl.Peer:
		return n.Peers
	case []impl.Heard:
		return n.Heard
	case []impl.Frame:
		return w.Frames
	case []impl.Op:
		return l.rightOps(l.number(9))
	case []impl.Told:
		widened := tells(tellFuse(0, iv(1, 2), iv(0, 2)))[l.number(2):]
		return slices.Concat(l.rightTells(l.number(30), 3), widened)
	case []impl.Ival:
		return l.sources(l.number(impl.MaxSources+1), 30)
	case []impl.Event:
		return l.events(l.number(12), n.Life.Since)
	case []impl.Look:
		return l.looks(l.number(12), 30)
	case impl.Frame:
		return during(w.Time, w.Time+1+l.number(20))
	case impl.Trip:
		return s.trip()
	case []impl.Trip:
		return []impl.Trip{s.trip(), s.trip()}
	case []impl.Mark:
		return s.marks()
	case impl.Msg:
		m, _ := l.message(w.Cfg, n, w.Time)
		return m
	case []byte:
		m, _ := l.message(w.Cfg, n, w.Time)
		return l.bytesOf(m)
	}
	return nil
}

func (s supply) value(of reflect.Type) reflect.Value {
	if right := s.right(of); right != nil && s.draw.number(4) > 0 {
		return reflect.ValueOf(right)
	}
	v := reflect.New(of).Elem()
	switch of.Kind() {
	case reflect.Int:
		v.SetInt(int64(s.number()))
	case reflect.Uint8:
		v.SetUint(uint64(s.draw.number(256)))
	case reflect.Bool:
		v.SetBool(s.draw.number(2) == 0)
	case reflect.String:
		v.SetString(s.text())
	case reflect.Struct:
		for i := range of.NumField() {
			v.Field(i).Set(s.value(of.Field(i).Type))
		}
	case reflect.Slice:
		for range []int{0, 1, 2, 2, 3, 5, 9, 70}[s.draw.number(8)] {
			v = reflect.Append(v, s.value(of.Elem()))
		}
	default:
		panic("no value of " + of.String())
	}
	return v
}

// The same with memory of its own, and with room behind each list that is none of it.
func (s supply) roomy(v reflect.Value) reflect.Value {
	own := reflect.New(v.Type()).Elem()
	own.Set(v)
	switch v.Kind() {
	case reflect.Struct:
		for i := range v.NumField() {
			own.Field(i).Set(s.roomy(v.Field(i)))
		}
	case reflect.Slice:
		own = reflect.MakeSlice(v.Type(), v.Len(), v.Len()+2)
		for i := range v.Len() {
			own.Index(i).Set(s.roomy(v.Index(i)))
		}
		for i := range 2 {
			own.Slice(0, own.Cap()).Index(v.Len() + i).Set(s.value(v.Type().Elem()))
		}
	}
	return own
}

// The same with memory of its own, and the room behind each list as a part of it.
func wholeOf(v reflect.Value) reflect.Value {
	own := reflect.New(v.Type()).Elem()
	own.Set(v)
	switch v.Kind() {
	case reflect.Struct:
		for i := range v.NumField() {
			own.Field(i).Set(wholeOf(v.Field(i)))
		}
	case reflect.Slice:
		own = reflect.MakeSlice(v.Type(), v.Cap(), v.Cap())
		for i := range v.Cap() {
			own.Index(i).Set(wholeOf(v.Slice(0, v.Cap()).Index(i)))
		}
	}
	return own
}

// The memory of each list in a value.
func listsIn(name string, v reflect.Value) []region {
	var all []region
	switch v.Kind() {
	case reflect.Struct:
		for i := range v.NumField() {
			all = append(all, listsIn(name+" "+v.Type().Field(i).Name, v.Field(i))...)
		}
	case reflect.Slice:
		all = append(all, region{name, v.Pointer(), v.Pointer() + uintptr(v.Cap())*v.Type().Elem().Size()})
		for i := range v.Len() {
			all = append(all, listsIn(name, v.Index(i))...)
		}
	}
	return all
}

func listsInAll(name string, values []reflect.Value) []region {
	var all []region
	for i, v := range values {
		all = append(all, listsIn(fmt.Sprint(name, " ", i), v)...)
	}
	return all
}

// As it is printed: an empty list is the same as none.
func printed(values []reflect.Value) string {
	var all []any
	for _, v := range values {
		all = append(all, v.Interface())
	}
	return fmt.Sprint(all...)
}

func wholes(values []reflect.Value) []any {
	var all []any
	for _, v := range values {
		all = append(all, wholeOf(v).Interface())
	}
	return all
}

// P23 of one function: at whatever it is given it answers, the same each time, with memory of its own, and writes into nothing.
func checkAnswers(t *testing.T, name string, f reflect.Value, s supply) string {
	t.Helper()
	var in []reflect.Value
	for i := range f.Type().NumIn() {
		in = append(in, s.roomy(s.value(f.Type().In(i))))
	}
	kept := wholes(in)
	one := f.Call(in)
	first := printed(one)
	other := f.Call(in)
	if !reflect.DeepEqual(wholes(in), kept) {
		t.Fatalf("%s writes into %v, now %v", name, kept, in)
	}
	if first != printed(one) || first != printed(other) {
		t.Fatalf("%s of %v is %s and %s", name, kept, first, printed(other))
	}
	checkApart(t, slices.Concat(listsInAll(name+" is given", in), listsInAll(name+" answers", one), listsInAll(name+" answers again", other)))
	return first
}

func TestEveryFunctionAnswersAndWritesIntoNothing(t *testing.T) {
	draw := &lottery{state: 227}
	told := map[string]map[string]int{}
	for name := range theProgram() {
		told[name] = map[string]int{}
	}
	names := slices.Sorted(maps.Keys(told))
	for range 300 {
		s := supply{draw, draw.world()}
		for _, name := range names {
			told[name][checkAnswers(t, name, reflect.ValueOf(theProgram()[name]), s)]++
		}
	}
	// What is refused each time would say little: a function whose arguments seldom fit each other is called on until they do.
	for _, name := range names {
		for calls := 0; len(told[name]) < 2; calls++ {
			if calls == 30000 {
				t.Fatal(name, "answers one thing alone", told[name])
			}
			told[name][checkAnswers(t, name, reflect.ValueOf(theProgram()[name]), supply{draw, draw.world()})]++
		}
	}
}
