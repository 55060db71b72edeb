package image

import (
	"cmp"
	"slices"

	"cattlegrid/api"
	"cattlegrid/ops"
	"cattlegrid/pool"
	"cattlegrid/regions"
	"cattlegrid/sigs"
)

// Formed tells whether g is an image that bytes can tell.
func Formed(g api.Image) bool {
	s := sizes{len(g.Types), len(g.Fields), len(g.Methods)}
	if s.types > api.MaxTypes || s.fields > api.MaxFields || s.methods > api.MaxMethods {
		return false
	}
	return all(g.Types, s.isType) &&
		all(g.Fields, s.isField) && slices.IsSortedFunc(g.Fields, byFieldOwner) &&
		all(g.Methods, s.isMethod) && slices.IsSortedFunc(g.Methods, byMethodOwner) &&
		(g.Entry == noEntry || isNumber(g.Entry, s.methods))
}

func byFieldOwner(a, b api.Field) int   { return cmp.Compare(a.Owner, b.Owner) }
func byMethodOwner(a, b api.Method) int { return cmp.Compare(a.Owner, b.Owner) }

// isType tells whether d may be a type of an image of these sizes; isField and isMethod tell likewise.
func (s sizes) isType(d api.TypeDef) bool {
	isFace := func(i int) bool { return isNumber(i, s.types) }
	return pool.Fine(d.Name) && isWithin(d.Flags, maxFlags) &&
		(d.Extends == noType || isNumber(d.Extends, s.types)) &&
		len(d.Faces) <= api.MaxFaces && all(d.Faces, isFace)
}

func (s sizes) isField(f api.Field) bool {
	return pool.Fine(f.Name) && isNumber(f.Owner, s.types) && s.isFieldType(f.Type)
}

func (s sizes) isMethod(m api.Method) bool {
	return pool.Fine(m.Name) && isNumber(m.Owner, s.types) &&
		isWithin(m.Flags, maxFlags) && isWithin(m.Max, api.MaxStack) &&
		s.isSig(m) && s.isLocals(m.Locals) && s.isCode(m.Code) && s.isClauses(m)
}

// isFieldType tells whether bytes tell t as a field's type. What may stand where is layer 5's to tell, so it is asked for the bytes, here and below.
func (s sizes) isFieldType(t api.Type) bool {
	_, e := sigs.PutField(t)
	return e == api.OK && s.knows(t)
}

func (s sizes) isSig(m api.Method) bool {
	_, e := sigs.PutSig(sigOf(m))
	return e == api.OK && s.knows(m.Ret) && all(m.Params, s.knows)
}

func (s sizes) isLocals(l []api.Type) bool {
	_, e := sigs.PutLocals(l)
	return e == api.OK && all(l, s.knows)
}

func (s sizes) isCode(l []api.Instr) bool {
	return len(l) <= api.MaxCode && all(l, func(x api.Instr) bool {
		return ops.Fits(x) == api.OK && s.has(x, len(l))
	})
}

func (s sizes) isClauses(m api.Method) bool {
	_, e := regions.Check(len(m.Code), m.Clauses)
	return e == api.OK && all(m.Clauses, s.catches)
}

// catches tells whether T of c is a type where it catches one, and nothing where it doesn't.
func (s sizes) catches(c api.Clause) bool {
	if c.Kind == api.CCatch {
		return s.isFieldType(c.T)
	}
	return c.T == api.Type{}
}

// isWithin tells whether n is from 0 to last.
func isWithin(n, last int) bool {
	return n >= 0 && n <= last
}

// sigOf is the signature of m: it has an object that it is called on, unless it is static.
func sigOf(m api.Method) api.Sig {
	return api.Sig{This: m.Flags&api.MStatic == 0, Params: m.Params, Ret: m.Ret}
}
