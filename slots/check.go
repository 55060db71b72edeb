package slots

import (
	"cattlegrid/api"
	"cattlegrid/layout"
	"cattlegrid/ops"
	"cattlegrid/tree"
)

// The kinds of what a spot is about.
const (
	ofType   = 0
	ofMethod = 1
)

// Check tells the first method, else the first class, else the first delegate, that isn't well, else the method with which no run can begin, and why.
func Check(g api.Image) (api.Spot, api.Errno) {
	if !areFieldsWell(g) {
		return api.Spot{}, api.ErrArg
	}
	u := uses{g: g, well: map[api.Type]struct{}{}}
	for m := range g.Methods {
		if e := u.wrongWith(m); e != api.OK {
			return api.Spot{Kind: ofMethod, Index: m}, e
		}
	}
	for t := range g.Types {
		if tree.Kind(g, t) == classKind && !isClassWell(g, t) {
			return api.Spot{Kind: ofType, Index: t}, api.ErrName
		}
	}
	for t := range g.Types {
		if tree.Kind(g, t) == delegateKind && len(tree.Methods(g, t)) == 0 {
			return api.Spot{Kind: ofType, Index: t}, api.ErrSlot
		}
	}
	if g.Entry != none && !mayBegin(g.Methods[g.Entry]) {
		return api.Spot{Kind: ofMethod, Index: g.Entry}, api.ErrFlow
	}
	return api.Spot{}, api.OK
}

// uses is an image, and which types were found to be used well in it: layer 12 looks through the whole image whenever it is asked of one.
type uses struct {
	g    api.Image
	well map[api.Type]struct{}
}

// wrongWith tells of the chapter's points the first that isn't so of a method, by its error.
func (u uses) wrongWith(m int) api.Errno {
	x := u.g.Methods[m]
	if !areFlagsWell(x, tree.Kind(u.g, x.Owner)) || !isBodyWell(x) || !standsWell(u.g, x) {
		return api.ErrSlot
	}
	for _, t := range typesOf(x) {
		if !u.isWell(t) {
			return api.ErrType
		}
	}
	return api.OK
}

// isWell tells whether a type that stands in a formed image is used well.
func (u uses) isWell(t api.Type) bool {
	// An array, or an address, of a type may stand there if the type itself may: so there are few to ask of.
	t.Dims, t.Ref = 0, false
	if _, ok := u.well[t]; ok {
		return true
	}
	if !layout.Used(u.g, t) {
		return false
	}
	u.well[t] = struct{}{}
	return true
}

// areFlagsWell tells whether a method's flags go together, and with the kind of its type.
func areFlagsWell(m api.Method, kind int) bool {
	switch {
	case has(m, api.MCtor):
		return kind == classKind && m.Ret.Kind == api.TVoid && m.Flags == api.MCtor
	case has(m, api.MVirtual):
		return !has(m, api.MStatic) && kind != valueKind
	}
	return !has(m, api.MAbstract|api.MNew)
}

// isBodyWell tells whether a method has what is run, or, with MAbstract, nothing of it.
func isBodyWell(m api.Method) bool {
	if has(m, api.MAbstract) {
		return len(m.Code) == 0 && len(m.Locals) == 0 && len(m.Clauses) == 0 && m.Max == 0
	}
	return len(m.Code) > 0
}

// standsWell tells whether a method is one that its type may have.
func standsWell(g api.Image, m api.Method) bool {
	switch tree.Kind(g, m.Owner) {
	case faceKind:
		return has(m, api.MAbstract)
	case delegateKind:
		return has(m, api.MAbstract) && len(tree.Methods(g, m.Owner)) == 1
	case classKind:
		return !has(m, api.MAbstract) || isAbstract(g, m.Owner)
	}
	return true
}

func isAbstract(g api.Image, t int) bool {
	return g.Types[t].Flags&api.FAbstract != 0
}

// typesOf are all types that a method names.
func typesOf(m api.Method) []api.Type {
	l := []api.Type{m.Ret}
	l = append(l, m.Params...)
	l = append(l, m.Locals...)
	for _, x := range m.Code {
		if info, _ := ops.Of(x.Op); info.Operand == api.PType {
			l = append(l, x.T)
		}
	}
	for _, c := range m.Clauses {
		if c.Kind == api.CCatch {
			l = append(l, c.T)
		}
	}
	return l
}

// isClassWell tells whether nothing is left to be done of what objects of the class are called for, if there may be any.
func isClassWell(g api.Image, t int) bool {
	if isAbstract(g, t) {
		return true
	}
	for _, m := range tableOf(g, t).methods {
		if has(g.Methods[m], api.MAbstract) {
			return false
		}
	}
	for _, f := range tree.Faces(g, t) {
		for _, m := range tree.Methods(g, f) {
			// What does it stands in one of the slots, and so has no MAbstract.
			if doneBy(g, t, m) == none {
				return false
			}
		}
	}
	return true
}

// mayBegin tells whether a run may begin with a method: without arguments, and with a number, if anything, for an answer.
func mayBegin(m api.Method) bool {
	if !has(m, api.MStatic) || len(m.Params) > 0 || has(m, api.MAbstract) {
		return false
	}
	switch m.Ret {
	case api.Type{Kind: api.TVoid}, api.Type{Kind: api.TInt}, api.Type{Kind: api.TLong}:
		return true
	}
	return false
}
