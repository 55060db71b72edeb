package ops

import (
	"math"
	"strings"
	"testing"

	"cattlegrid/api"
)

// chapter is the table of the chapter: of each number from 1 on the name, the operand and the way.
const chapter = `nop|no operand|next
ldarg|an argument|next
starg|an argument|next
ldarga|an argument|next
ldloc|a local|next
stloc|a local|next
ldloca|a local|next
ldc4|a number of 32 bits|next
ldc8|a number of 64 bits|next
ldnull|no operand|next
dup|no operand|next
pop|no operand|next
add|no operand|next
sub|no operand|next
mul|no operand|next
div|no operand|next
rem|no operand|next
and|no operand|next
or|no operand|next
xor|no operand|next
shl|no operand|next
shr|no operand|next
neg|no operand|next
not|no operand|next
addovf|no operand|next
subovf|no operand|next
mulovf|no operand|next
conv4|no operand|next
conv8|no operand|next
convovf4|no operand|next
ceq|no operand|next
cgt|no operand|next
clt|no operand|next
br|a place|jump
brtrue|a place|fork
brfalse|a place|fork
beq|a place|fork
bge|a place|fork
bgt|a place|fork
ble|a place|fork
blt|a place|fork
bne|a place|fork
call|a method|next
callvirt|a method|next
newobj|a method|next
ret|no operand|end
tail|no operand|next
ldfld|a field|next
stfld|a field|next
ldflda|a field|next
ldsfld|a field|next
stsfld|a field|next
ldsflda|a field|next
ldobj|a type|next
stobj|a type|next
initobj|a type|next
newarr|a type|next
ldlen|no operand|next
ldelem|a type|next
stelem|a type|next
ldelema|a type|next
box|a type|next
unbox|a type|next
unboxany|a type|next
castclass|a type|next
isinst|a type|next
ldftn|a method|next
newdel|a type|next
throw|no operand|end
rethrow|no operand|end
leave|a place|leave
endfinally|no operand|back
endfilter|no operand|back
in|no operand|next
out|no operand|next`

var operands = map[string]int{
	"no operand":          0,
	"a number of 32 bits": 1,
	"a number of 64 bits": 2,
	"a local":             3,
	"an argument":         4,
	"a place":             5,
	"a method":            6,
	"a field":             7,
	"a type":              8,
}

var ways = map[string]int{"next": 0, "jump": 1, "fork": 2, "end": 3, "leave": 4, "back": 5}

// numberless are numbers that no instruction has: beside the ends, and far from all.
var numberless = []int{0, 76, -1, -75, 77, 99, 128, 255, 256, 257, 65536 + 1, 1<<32 + 1, math.MaxInt32, math.MinInt32, math.MaxInt, math.MinInt}

// wild are numbers far from all that an operand with bounds may be, some of which are small if they are cut off.
var wild = []int64{-2, -160, 1000, 1 << 32, 1<<32 + 1, -1 << 32, 1 << 33, math.MaxInt64, math.MinInt64, math.MinInt64 + 1}

var num = api.Type{Kind: api.TInt}

// told are the chapter's instructions, the one of number 1 first.
func told(t *testing.T) []api.Info {
	t.Helper()
	var l []api.Info
	for line := range strings.SplitSeq(chapter, "\n") {
		part := strings.Split(line, "|")
		operand, ok := operands[part[1]]
		way, fine := ways[part[2]]
		if !ok || !fine {
			t.Fatal(line)
		}
		l = append(l, api.Info{Name: part[0], Operand: operand, Flow: way})
	}
	return l
}

// withOperand are the numbers of the instructions whose operand is of that kind.
func withOperand(t *testing.T, operand int) []int {
	t.Helper()
	var l []int
	for i, x := range told(t) {
		if x.Operand == operand {
			l = append(l, i+1)
		}
	}
	if len(l) == 0 {
		t.Fatal("none with operand", operand)
	}
	return l
}

func wantFits(t *testing.T, x api.Instr, want api.Errno) {
	t.Helper()
	if e := Fits(x); e != want {
		t.Errorf("Fits(%v): %v, want %v", x, e, want)
	}
}

// fineTypes are all types that an operand may be.
func fineTypes() []api.Type {
	var l []api.Type
	for kind, last := range map[int]int{api.TInt: 0, api.TLong: 0, api.TObject: 0, api.TClass: 31, api.TValue: 31, api.TFault: 7} {
		for index := range last + 1 {
			for dims := range 4 {
				l = append(l, api.Type{Kind: kind, Index: index, Dims: dims})
			}
		}
	}
	return l
}

// wrongTypes are types that aren't plain, void ones, and those with Ref.
func wrongTypes() []api.Type {
	l := []api.Type{
		{},
		{Index: 1},
		{Dims: 1},
		{Ref: true},
		{Kind: api.TVoid},
		{Kind: api.TVoid, Dims: 1},
		{Kind: api.TVoid, Ref: true},
		{Kind: api.TNull},
		{Kind: api.TFunc},
		{Kind: api.TFunc, Index: 1},
		{Kind: 10},
		{Kind: -1},
		{Kind: math.MaxInt},
		{Kind: math.MinInt},
		{Kind: api.TInt, Index: 1},
		{Kind: api.TLong, Index: -1},
		{Kind: api.TObject, Index: 1},
		{Kind: api.TClass, Index: 32},
		{Kind: api.TClass, Index: -1},
		{Kind: api.TValue, Index: 32},
		{Kind: api.TValue, Index: -1},
		{Kind: api.TFault, Index: 8},
		{Kind: api.TFault, Index: -1},
		{Kind: api.TClass, Index: math.MaxInt},
		{Kind: api.TInt, Dims: 4},
		{Kind: api.TInt, Dims: -1},
		{Kind: api.TValue, Dims: math.MinInt},
	}
	for _, x := range fineTypes() {
		x.Ref = true
		l = append(l, x)
	}
	return l
}

// P6.1: how many there are.
func TestMany(t *testing.T) {
	if n := Many(); n != 75 || n != len(told(t)) {
		t.Errorf("%d", n)
	}
}

// P6.1: each instruction with its name, operand and way.
func TestOf(t *testing.T) {
	for i, want := range told(t) {
		if x, e := Of(i + 1); x != want || e != api.OK {
			t.Errorf("Of(%d): %v %v, want %v", i+1, x, e, want)
		}
	}
	want := api.Info{Name: "br", Operand: api.PPlace, Flow: api.WJump}
	if x, e := Of(34); x != want || e != api.OK {
		t.Errorf("Of(34): %v %v", x, e)
	}
}

// P6.1: api's names of the instructions are those of the same numbers.
func TestOfNamesOfApi(t *testing.T) {
	for op, want := range map[int]string{
		api.ONop: "nop", api.OLdarg: "ldarg", api.OLdloc: "ldloc", api.OLdc4: "ldc4", api.OLdc8: "ldc8", api.OPop: "pop",
		api.OAdd: "add", api.OShr: "shr", api.OConvovf4: "convovf4", api.OClt: "clt", api.OBr: "br", api.OBne: "bne",
		api.OCall: "call", api.ORet: "ret", api.OTail: "tail", api.OLdfld: "ldfld", api.OLdsflda: "ldsflda", api.OLdobj: "ldobj",
		api.OLdlen: "ldlen", api.OIsinst: "isinst", api.OLdftn: "ldftn", api.ONewdel: "newdel", api.OLeave: "leave", api.OOut: "out",
	} {
		if x, e := Of(op); x.Name != want || e != api.OK {
			t.Errorf("Of(%d): %v %v, want %s", op, x, e, want)
		}
	}
}

// P6.1: numbers that no instruction has.
func TestOfNone(t *testing.T) {
	for _, op := range numberless {
		if x, e := Of(op); x != (api.Info{}) || e != api.ErrRange {
			t.Errorf("Of(%d): %v %v", op, x, e)
		}
	}
	n := 0
	for op := -1000; op <= 1000; op++ {
		if _, e := Of(op); e == api.OK {
			n++
		}
	}
	if n != 75 {
		t.Errorf("%d of them are instructions", n)
	}
}

// P6.1: each name is led back to its number.
func TestNamed(t *testing.T) {
	for i, x := range told(t) {
		if op, e := Named(x.Name); op != i+1 || e != api.OK {
			t.Errorf("Named(%q): %d %v, want %d", x.Name, op, e, i+1)
		}
	}
}

// P6.1: names that none has: the empty one, others, and each name with a sign more or less, or in other letters.
func TestNamedNone(t *testing.T) {
	var l []string
	names := make(map[string]bool)
	for _, x := range told(t) {
		names[x.Name] = true
		l = append(l, x.Name+" ", " "+x.Name, x.Name+"\x00", x.Name+"x", x.Name+"a", "x"+x.Name, x.Name+x.Name)
		l = append(l, strings.ToUpper(x.Name), strings.ToUpper(x.Name[:1])+x.Name[1:], x.Name[:len(x.Name)-1], x.Name[1:])
	}
	l = append(l, "", " ", "\x00", "jmp", "1", "75", "switch", "\xff", "\u00fcber", "nop ldarg", strings.Repeat("nop", 10000))
	n := 0
	for _, name := range l {
		// Some names are others with a sign less or more: ldarg and ldarga.
		if names[name] {
			continue
		}
		n++
		if op, e := Named(name); op != 0 || e != api.ErrName {
			t.Errorf("Named(%q): %d %v", name, op, e)
		}
	}
	if n < 700 {
		t.Errorf("only %d names that none has", n)
	}
}

// P6.3: no two have one name.
func TestNamesDiffer(t *testing.T) {
	met := make(map[string]int)
	for op := 1; op <= Many(); op++ {
		x, e := Of(op)
		if e != api.OK || x.Name == "" {
			t.Errorf("%d: %v %v", op, x, e)
		}
		if met[x.Name] != 0 {
			t.Errorf("%d and %d are both %s", met[x.Name], op, x.Name)
		}
		met[x.Name] = op
	}
	if len(met) != 75 {
		t.Errorf("%d names", len(met))
	}
}

// P6.2: of each operand with bounds the first and the last that fits, those within, those beside them, and those far away.
func TestFitsBounds(t *testing.T) {
	for _, c := range []struct{ operand, first, last int64 }{
		{api.PNone, 0, 0},
		{api.PNum4, -2147483648, 2147483647},
		{api.PLocal, 0, api.MaxLocals - 1},
		{api.PLocal, 0, 11},
		{api.PArg, 0, api.MaxParams},
		{api.PArg, 0, 6},
		{api.PPlace, 0, api.MaxCode - 1},
		{api.PPlace, 0, 159},
		{api.PMethod, 0, api.MaxMethods - 1},
		{api.PMethod, 0, 63},
		{api.PField, 0, api.MaxFields - 1},
		{api.PField, 0, 63},
	} {
		for _, op := range withOperand(t, int(c.operand)) {
			for _, n := range []int64{c.first, c.first / 2, (c.first + c.last) / 2, c.last / 2, c.last} {
				wantFits(t, api.Instr{Op: op, Arg: n}, api.OK)
			}
			for _, n := range append([]int64{c.first - 1, c.last + 1}, wild...) {
				if n < c.first || n > c.last {
					wantFits(t, api.Instr{Op: op, Arg: n}, api.ErrArg)
				}
			}
		}
	}
	wantFits(t, api.Instr{Op: api.OBr, Arg: -1}, api.ErrArg)
}

// P6.2: each number around those that fit, for the operands that are few.
func TestFitsEachNumber(t *testing.T) {
	for operand, many := range map[int]int64{api.PNone: 1, api.PLocal: 12, api.PArg: 7, api.PPlace: 160, api.PMethod: 64, api.PField: 64} {
		for _, op := range withOperand(t, operand) {
			for n := int64(-300); n <= 300; n++ {
				want := api.ErrArg
				if n >= 0 && n < many {
					want = api.OK
				}
				wantFits(t, api.Instr{Op: op, Arg: n}, want)
			}
		}
	}
}

// P6.2: any number of 64 bits fits, both ends too.
func TestFitsNumbersOf64Bits(t *testing.T) {
	for _, op := range withOperand(t, api.PNum8) {
		for _, n := range append([]int64{0, 1, -1, 1 << 31, -1<<31 - 1, math.MaxInt64 - 1}, wild...) {
			wantFits(t, api.Instr{Op: op, Arg: n}, api.OK)
		}
	}
}

// P6.2: what no operand or a type has as Arg is zero.
func TestFitsArgThatIsToBeZero(t *testing.T) {
	for _, n := range append([]int64{1, -1, 2, 63, 256, 65536}, wild...) {
		for _, op := range withOperand(t, api.PNone) {
			wantFits(t, api.Instr{Op: op, Arg: n}, api.ErrArg)
			wantFits(t, api.Instr{Op: op, Arg: n, T: num}, api.ErrArg)
		}
		for _, op := range withOperand(t, api.PType) {
			wantFits(t, api.Instr{Op: op, Arg: n, T: num}, api.ErrArg)
			wantFits(t, api.Instr{Op: op, Arg: n}, api.ErrArg)
		}
	}
}

// P6.2: T is zero beside each operand that isn't a type, whatever else it would be.
func TestFitsTypeThatIsToBeZero(t *testing.T) {
	for i, x := range told(t) {
		if x.Operand == api.PType {
			continue
		}
		wantFits(t, api.Instr{Op: i + 1}, api.OK)
		for _, y := range append(fineTypes(), wrongTypes()...) {
			if y != (api.Type{}) {
				wantFits(t, api.Instr{Op: i + 1, T: y}, api.ErrArg)
				wantFits(t, api.Instr{Op: i + 1, Arg: -1, T: y}, api.ErrArg)
			}
		}
	}
}

// P6.2: as a type a plain one that is neither void nor Ref.
func TestFitsTypes(t *testing.T) {
	for _, op := range withOperand(t, api.PType) {
		for _, x := range fineTypes() {
			wantFits(t, api.Instr{Op: op, T: x}, api.OK)
		}
		for _, x := range wrongTypes() {
			wantFits(t, api.Instr{Op: op, T: x}, api.ErrArg)
		}
	}
}

// P6.2: an Op that is none is told, whatever stands beside it.
func TestFitsOfNone(t *testing.T) {
	for _, op := range numberless {
		for _, n := range append([]int64{0, 1, -1}, wild...) {
			for _, x := range append([]api.Type{num}, wrongTypes()...) {
				wantFits(t, api.Instr{Op: op, Arg: n, T: x}, api.ErrRange)
			}
		}
	}
}
