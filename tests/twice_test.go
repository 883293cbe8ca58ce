package tests

import (
	"go/ast"
	"go/parser"
	"go/token"
	"math"
	"math/rand"
	"path/filepath"
	"reflect"
	"slices"
	"testing"

	"loop.example/g00082/impl"
)

// exported has each function of the program at its name.
var exported = map[string]any{
	"KindOf": impl.KindOf, "PartsOf": impl.PartsOf, "Make": impl.Make, "Stands": impl.Stands, "SecretsOf": impl.SecretsOf, "Number": impl.Number, "NumberOf": impl.NumberOf,
	"TakeApart": impl.TakeApart, "CanMake": impl.CanMake, "RunRecipe": impl.RunRecipe,
	"NvNew": impl.NvNew, "NvRead": impl.NvRead, "NvWrites": impl.NvWrites, "NvApply": impl.NvApply, "NvPut": impl.NvPut,
	"Cleared": impl.Cleared, "Extend": impl.Extend, "Fold": impl.Fold, "Composite": impl.Composite, "Shown": impl.Shown,
	"RootOk": impl.RootOk, "RootNew": impl.RootNew, "BootsOf": impl.BootsOf, "PowerOn": impl.PowerOn, "PowerOff": impl.PowerOff, "RootExtend": impl.RootExtend, "QuoteBy": impl.QuoteBy, "Quote": impl.Quote,
	"VaultOk": impl.VaultOk, "PutSeal": impl.PutSeal, "Mend": impl.Mend, "Unseal": impl.Unseal, "SealNow": impl.SealNow,
	"MeasureOf": impl.MeasureOf, "DeviceOk": impl.DeviceOk, "DeviceNew": impl.DeviceNew, "Restart": impl.Restart, "Load": impl.Load, "Note": impl.Note, "Trusted": impl.Trusted,
	"WriteLog": impl.WriteLog, "ReadLog": impl.ReadLog, "FirstUnlike": impl.FirstUnlike,
	"Looks": impl.Looks, "ImagesOf": impl.ImagesOf, "Replay": impl.Replay, "Depends": impl.Depends,
	"CertBy": impl.CertBy, "CheckCert": impl.CheckCert, "CheckChain": impl.CheckChain, "Renewed": impl.Renewed,
	"PolicyOk": impl.PolicyOk, "Judge": impl.Judge, "JudgeAll": impl.JudgeAll, "Withdraw": impl.Withdraw, "Demand": impl.Demand,
	"TableOk": impl.TableOk, "NonceOf": impl.NonceOf, "Challenge": impl.Challenge, "Pass": impl.Pass, "Spend": impl.Spend, "OpenNow": impl.OpenNow,
	"VerifierOk": impl.VerifierOk, "EvidenceOf": impl.EvidenceOf, "Appraise": impl.Appraise,
	"TokenBy": impl.TokenBy, "RelyingOk": impl.RelyingOk, "AskFor": impl.AskFor, "Accept": impl.Accept, "Told": impl.Told,
	"Same": impl.Same, "Known": impl.Known, "Blend": impl.Blend, "Above": impl.Above, "Ranked": impl.Ranked, "Median": impl.Median, "Decay": impl.Decay, "Within": impl.Within, "Sure": impl.Sure,
	"ShownAt": impl.ShownAt, "TickAt": impl.TickAt, "FitClock": impl.FitClock, "Fresh": impl.Fresh, "Overlap": impl.Overlap, "Marked": impl.Marked,
	"NetOk": impl.NetOk, "Send": impl.Send, "Take": impl.Take, "Forge": impl.Forge, "Steal": impl.Steal,
	"WorldOk": impl.WorldOk, "WorldNew": impl.WorldNew, "CertsOf": impl.CertsOf, "Act": impl.Act, "ActAll": impl.ActAll,
	"TwiceAt": impl.TwiceAt, "BackedAt": impl.BackedAt, "RisingAt": impl.RisingAt, "AcceptedAt": impl.AcceptedAt, "AskedAt": impl.AskedAt, "Counts": impl.Counts, "Story": impl.Story,
	"RunScript": impl.RunScript,
}

// namesOfExported are those of the functions that the program's files declare, rising.
func namesOfExported(t *testing.T) []string {
	t.Helper()
	files, _ := filepath.Glob("../impl/*.go")
	var names []string
	for _, name := range files {
		file, err := parser.ParseFile(token.NewFileSet(), name, nil, 0)
		if err != nil {
			t.Fatal(err)
		}
		for _, d := range file.Decls {
			if f, ok := d.(*ast.FuncDecl); ok && f.Recv == nil && f.Name.IsExported() {
				names = append(names, f.Name.Name)
			}
		}
	}
	slices.Sort(names)
	return names
}

// A pool has some arguments of each type, right ones and wrong ones.
type pool map[reflect.Type][]reflect.Value

func (p pool) add(values ...any) {
	for _, v := range values {
		p[reflect.TypeOf(v)] = append(p[reflect.TypeOf(v)], reflect.ValueOf(v))
	}
}

// addSome adds no more than so many of a long list, spread over it.
func addSome[T any](p pool, most int, list []T) {
	for at := 0; at < len(list); at += 1 + len(list)/most {
		p.add(list[at])
	}
}

func (p pool) addTexts() {
	p.add("", "a", "x", "boot", "dev", "d0", "A", "!s", "!v", "!k", "!root", "!A", "n0", "n12", "n012", "reset", "(pub !k)", "(pub !root)", "(hash a b)", "(pair a !s)", "(hash n1 core n7)", "(sign !k (hash b))")
	p.add(nonceText(5), nonceText(8), tokenText("!s", nonceText(5), "dev", 1), tokenText("!v", "a", "dev", 7), nested(40, "a"), nested(41, "a"), termOf(4000), termOf(4001))
	p.add("ask\n", "restart 0 4\nload 0 evil 1\nnote 0 3 a\nask\nquote 0\nshow 0\naudit\nfacts\n", "least 0 boot 1\nwithdraw 0 boot 1\nwhat", " \n\nwhat\n")
}

func (p pool) addNumbers() {
	for _, n := range []int64{math.MinInt64, -1, 0, 1, 2, 3, 4, 5, 6, 7, 8, 20, 100, 255, 256, impl.MaxNumber, impl.MaxNumber + 1, math.MaxInt64} {
		p.add(n)
	}
	p.add(true, false)
	addSome(p, 20, append(risingEdges(), unlikeNaNs()...))
	p.add([]int64(nil), []int64{7}, []int64{0, 1, 2}, []int64{5, 6}, []int64{-1, 3}, make([]int64, 20), make([]int64, 101))
	p.add([]float64(nil), []float64{2, 4, 9}, []float64{1, 2, 3}, []float64{noNumber, 3, minusZero, 0, infinite}, make([]float64, 100), make([]float64, 101))
	p.add([]impl.Mark(nil), []impl.Mark{{Weight: 1, Value: 2}, {Weight: 3, Value: noNumber}, {Weight: 2, Value: 4}}, make([]impl.Mark, 101))
	addSome(p, 3, rightClocks())
	addSome(p, 3, wrongClocks())
}

func (p pool) addLists() {
	images := someImages(3)
	p.add([]string(nil), []string{"!k", "(seal !k !s)", "(pair a (hash b))"}, []string{"!s", "a"}, []string{"a", "A"}, namedRegisters(), impl.Cleared(), mostKnown(), takenNames(61), []string{"!a", "!b"}, chosenBy(folded(loadsOf(images)), 1))
	p.add([]impl.RStep(nil), []impl.RStep{{Op: impl.RcName, Name: "x"}, {Op: impl.RcHash, Args: args(0)}}, []impl.RStep{{Op: impl.RcPair, Args: args(0, 1)}}, []impl.RStep{{Op: 11}})
	p.add([]impl.Event(nil), loadsOf(images), among(loadsOf(images)), stepsOf(60, inTurn), stepsOf(61, inTurn), []impl.Event{{Register: 8, Measure: "a"}})
	p.add([]impl.Image(nil), images, append(someImages(2), strange), someImages(61), []impl.Image{{Name: "A"}})
	p.add(logBytes(nil), logBytes(loadsOf(images)), []byte(nil), []byte{81, 76, 61})
	p.add([]impl.Cert(nil), devCerts(), chainOfMany(8), chainOfMany(9), makerCert(), impl.Cert{})
	p.add([]impl.Write(nil), []impl.Write{{At: 0, Value: 1}, {At: 3, Value: 2}}, []impl.Write{{At: -1}})
	addSome(p, 6, rightImages())
	addSome(p, 4, wrongImages())
}

func (p pool) addDevices() {
	images := someImages(3)
	p.add(impl.Nv{}, twoCopies(copyWords(3, 0, 8, 9), copyWords(4, 0, 3, 7)), twoCopies(copyWords(3, 0, 8), noNv()))
	p.add(upRoot(3, namedRegisters()), downRoot(3, 1), downRoot(impl.MaxNumber, 1), impl.Root{})
	p.add(vaultOf(2, 5), vaultOf(), underWay(vaultOf(2, 5), 1, sealAt(3, "a")), underWay(vaultOf(2, 5), 2, sealAt(2, "a")), impl.Vault{Stage: 3})
	p.add(sealAt(3, "!new"), impl.Seal{Slot: 2}, impl.Seal{Slot: 8})
	p.add(downDevice(), upDevice(images, loadsOf(images)), upDevice(nil, nil), upDevice(images, among(loadsOf(images))), impl.Device{})
}

func (p pool) addJudges() {
	images := someImages(3)
	p.add(aPolicy(), policyFor(images), impl.Policy{}, impl.Policy{Number: -1})
	addSome(p, 4, rightTables())
	addSome(p, 4, wrongTables())
	p.add(verifierFor(images), withPolicy(verifierFor(images), aPolicy()), impl.Verifier{})
	p.add(evidenceOf(loadsOf(images), 255), evidenceOf(among(loadsOf(images)), 255), evidenceOf(loadsOf(images), 7), evidenceOf(loadsOf(someImages(2)), 255), impl.Evidence{})
	addSome(p, 5, rightRelyings())
	addSome(p, 3, wrongRelyings())
}

func (p pool) addWorlds() {
	addSome(p, 5, rightNets())
	addSome(p, 3, wrongNets())
	done, refused := oneOfEach()
	good := shownBy(aWorld().Devices[0], 255)
	p.add(aWorld(), trusting(), quotedOn(aWorld(), good), impl.World{}, withFacts(aWorld(), make([]impl.Fact, impl.MaxFacts)...))
	for _, a := range slices.Concat(done, refused, []impl.Action{showing(good), {}}) {
		p.add(a)
	}
	p.add([]impl.Action(nil), done, refused, append([]impl.Action{showing(good)}, done...), make([]impl.Action, 201))
	p.add([]impl.Fact(nil), padded(9), padded(301), []impl.Fact{askFact("x"), quoteFact(0, 1, "x", someImages(2)...), goodFact(1, "x", someImages(2)...), acceptFact(1, "x")}, []impl.Fact{goodFact(1, "x", someImages(1)...), acceptFact(1, "a"), quoteFact(1, 2, "a"), quoteFact(1, 1, "a"), goodFact(2, "x")})
}

// A question is a call of an exported function, with what it told.
type question struct {
	name string
	ask  reflect.Value
	with []reflect.Value
	kept []reflect.Value // the arguments as they were
	told []reflect.Value
}

func copiesWithRoom(values []reflect.Value) []reflect.Value {
	var copies []reflect.Value
	for _, v := range values {
		copies = append(copies, spaciousValue(v))
	}
	return copies
}

// sureQuestions are of what wants so much to be right that picking would seldom do.
func sureQuestions(name string) []question {
	if name != "CertBy" {
		return nil
	}
	with := []reflect.Value{reflect.ValueOf("!root"), reflect.ValueOf("maker"), reflect.ValueOf("(pub !m)"), reflect.ValueOf(int64(2)), reflect.ValueOf(int64(9))}
	return []question{{name: name, ask: reflect.ValueOf(impl.CertBy), with: with, kept: with}}
}

// questions have each argument of the pool often enough, those of other places being picked.
func (p pool) questions(t *testing.T, r *rand.Rand, name string) []question {
	t.Helper()
	ask := reflect.ValueOf(exported[name])
	all := sureQuestions(name)
	put := func(place int, value reflect.Value) {
		var with []reflect.Value
		for i := range ask.Type().NumIn() {
			from := p[ask.Type().In(i)]
			with = append(with, from[r.Intn(len(from))])
		}
		if place < len(with) {
			with[place] = value
		}
		all = append(all, question{name: name, ask: ask, with: copiesWithRoom(with), kept: copiesWithRoom(with)})
	}
	for i := range ask.Type().NumIn() {
		if len(p[ask.Type().In(i)]) < 2 {
			t.Fatal("no arguments for", name, ask.Type().In(i))
		}
		for _, value := range slices.Repeat(p[ask.Type().In(i)], 12) {
			put(i, value)
		}
	}
	if len(all) == 0 {
		put(0, reflect.Value{})
	}
	return all
}

// unlikeTo tells what is unlike in the answers to two calls.
func unlikeTo(one []reflect.Value, two []reflect.Value, toTheEnd bool) string {
	for i := range one {
		if told := unlikeValues(one[i], two[i], toTheEnd, ""); told != "" {
			return told
		}
	}
	return ""
}

// Promise 21, of all chapters: the same arguments give the same answers, whatever was asked between; nothing is written into an argument; an answer is new memory.
func TestEachFunctionTwice(t *testing.T) {
	names := namesOfExported(t)
	if len(names) != len(exported) || len(names) < 100 {
		t.Fatal("all exported functions", len(names), len(exported))
	}
	p := pool{}
	p.addTexts()
	p.addNumbers()
	p.addLists()
	p.addDevices()
	p.addJudges()
	p.addWorlds()
	r := rand.New(rand.NewSource(105))
	var all []question
	for _, name := range names {
		if exported[name] == nil {
			t.Fatal("it is not asked:", name)
		}
		all = append(all, p.questions(t, r, name)...)
	}
	unlikes := map[string]bool{}
	for i, a := range all {
		answer := a.ask.Call(a.with)
		for _, shared := range sharingsOf(answer, a.with) {
			t.Errorf("%s %s: memory is shared: %s", a.name, brief(a.with), shared)
		}
		all[i].told = copiesWithRoom(answer)
		if i > 0 && all[i-1].name == a.name && unlikeTo(answer, all[i-1].told, false) != "" {
			unlikes[a.name] = true
		}
		for _, v := range answer {
			markAll(v)
		}
	}
	for _, a := range slices.Backward(all) {
		if other := unlikeTo(a.ask.Call(a.with), a.told, false); other != "" {
			t.Errorf("%s %s: another answer: %s", a.name, brief(a.with), other)
		}
		if other := unlikeTo(a.with, a.kept, true); other != "" {
			t.Errorf("%s %s: an argument was changed: %s", a.name, brief(a.kept), other)
		}
	}
	for _, name := range names {
		if !unlikes[name] && name != "Cleared" {
			t.Error("all answers are alike:", name)
		}
	}
}
