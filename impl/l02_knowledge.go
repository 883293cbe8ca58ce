package impl

import (
	"maps"
	"slices"
)

const (
	MaxKnown  = 60
	MaxRecipe = 60
)

const (
	RcName = iota + 1
	RcPair
	RcHash
	RcSign
	RcPub
	RcSeal
	RcFirst
	RcSecond
	RcRead
	RcOpen
)

const (
	RcKnown = iota + 1
	RcOp
	RcArg
	RcTerm
	RcKey
)

type RStep struct {
	Op   int64
	Args []int64
	Name string
}

// knowledge holds by its text what is known; and below what is lacking the known seals that wait for it, by their texts.
type knowledge struct {
	terms   map[string]termNode
	waiting map[string]map[string]termNode
}

func readKnown(known []string) ([]termNode, bool) {
	if len(known) > MaxKnown {
		return nil, false
	}
	var nodes []termNode
	for _, t := range known {
		n, ok := readTerm(t)
		if !ok {
			return nil, false
		}
		nodes = append(nodes, n)
	}
	return nodes, true
}

func knowledgeOf(known []string) (knowledge, bool) {
	nodes, ok := readKnown(known)
	if !ok {
		return knowledge{}, false
	}
	k := knowledge{terms: map[string]termNode{}, waiting: map[string]map[string]termNode{}}
	k.learn(nodes)
	return k, true
}

// learn takes apart, and uses up its list; what comes out may be what seals waited for.
func (k knowledge) learn(work []termNode) {
	for len(work) > 0 {
		n := work[len(work)-1]
		work = work[:len(work)-1]
		if k.knows(n) {
			continue
		}
		k.terms[n.text] = n
		work = append(work, k.inside(n)...)
		for _, seal := range k.waiting[n.text] {
			work = append(work, k.inside(seal)...)
		}
	}
}

// inside is what comes out of a known term now; a seal from which nothing does has to wait.
func (k knowledge) inside(n termNode) []termNode {
	switch n.kind {
	case TmPair:
		return n.parts
	case TmSign:
		return n.parts[1:]
	case TmSeal:
		lacking := k.lacking(n.parts[0])
		if len(lacking) == 0 {
			return n.parts[1:]
		}
		k.wait(n, lacking)
	}
	return nil
}

func (k knowledge) wait(seal termNode, lacking []string) {
	for _, t := range lacking {
		if k.waiting[t] == nil {
			k.waiting[t] = map[string]termNode{}
		}
		k.waiting[t][seal.text] = seal
	}
}

func (k knowledge) knows(n termNode) bool {
	_, ok := k.terms[n.text]
	return ok
}

// lacking is empty when the term can be made; else it leads from a secret that is not known, part by part, up to the term, which can't be made as long as none of these is known.
func (k knowledge) lacking(n termNode) []string {
	if n.kind == TmName || k.knows(n) {
		return nil
	}
	if n.kind == TmSecret {
		return []string{n.text}
	}
	for _, p := range n.parts {
		if up := k.lacking(p); len(up) > 0 {
			return append(up, n.text)
		}
	}
	return nil
}

func TakeApart(known []string) ([]string, bool) {
	k, ok := knowledgeOf(known)
	if !ok {
		return nil, false
	}
	return slices.Sorted(maps.Keys(k.terms)), true
}

func CanMake(known []string, t string) bool {
	k, right := knowledgeOf(known)
	n, ok := readTerm(t)
	return right && ok && len(k.lacking(n)) == 0
}

// A stepRule says how many Args an Op takes, and what it makes of them, or with what code it fails.
type stepRule struct {
	least, most int
	run         func(name string, args []string) (string, int64)
}

// stepRules has the rule of each Op at its number; no Op is 0.
func stepRules() []stepRule {
	return []stepRule{
		RcName:   {0, 0, stepName},
		RcPair:   {2, 2, stepMake(TmPair)},
		RcHash:   {1, 8, stepMake(TmHash)},
		RcSign:   {2, 2, stepMake(TmSign)},
		RcPub:    {1, 1, stepMake(TmPub)},
		RcSeal:   {2, 2, stepMake(TmSeal)},
		RcFirst:  {1, 1, stepTake(TmPair, 0)},
		RcSecond: {1, 1, stepTake(TmPair, 1)},
		RcRead:   {1, 1, stepTake(TmSign, 1)},
		RcOpen:   {2, 2, stepOpen},
	}
}

func stepName(name string, args []string) (string, int64) {
	if KindOf(name) != TmName {
		return "", RcTerm
	}
	return name, 0
}

func stepMake(kind int64) func(string, []string) (string, int64) {
	return func(name string, args []string) (string, int64) {
		t, ok := Make(kind, args)
		if !ok {
			return "", RcTerm
		}
		return t, 0
	}
}

func stepTake(kind int64, part int) func(string, []string) (string, int64) {
	return func(name string, args []string) (string, int64) {
		n, _ := readTerm(args[0])
		if n.kind != kind {
			return "", RcTerm
		}
		return n.parts[part].text, 0
	}
}

func stepOpen(name string, args []string) (string, int64) {
	n, _ := readTerm(args[0])
	if n.kind != TmSeal {
		return "", RcTerm
	}
	if n.parts[0].text != args[1] {
		return "", RcKey
	}
	return n.parts[1].text, 0
}

func runStep(rules []stepRule, there []string, step RStep) (string, int64) {
	if step.Op < RcName || step.Op > RcOpen {
		return "", RcOp
	}
	rule := rules[step.Op]
	if len(step.Args) < rule.least || len(step.Args) > rule.most || step.Op != RcName && step.Name != "" {
		return "", RcOp
	}
	var args []string
	for _, place := range step.Args {
		if place < 0 || place >= int64(len(there)) {
			return "", RcArg
		}
		args = append(args, there[place])
	}
	return rule.run(step.Name, args)
}

func RunRecipe(known []string, recipe []RStep) ([]string, int64, int64) {
	if _, ok := readKnown(known); !ok || len(recipe) > MaxRecipe {
		return nil, RcKnown, -1
	}
	rules := stepRules()
	there := slices.Clone(known)
	for at, step := range recipe {
		t, code := runStep(rules, there, step)
		if code != 0 {
			return nil, code, int64(at)
		}
		there = append(there, t)
	}
	return there[len(known):], 0, -1
}
