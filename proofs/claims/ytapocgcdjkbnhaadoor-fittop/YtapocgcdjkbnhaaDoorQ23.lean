/- Texts joined: RefFormed10. -/
import Derived.Test.YtapocgcdjkbnhaaDoorQ13
import Derived.Test.YtapocgcdjkbnhaaDoorQ22
namespace Go.Proofs.YtapocgcdjkbnhaaDoor
set_option linter.unusedVariables false
set_option linter.unusedSimpArgs false
open Go.RowKit
attribute [local go_sem ↓] Go.wp_at_zero Go.wp_at_succ
def UpTo (l : List Int) (m : Nat) : Prop := ∀ j (hj : j + 1 < l.length),j + 1 < m → l[j] ≤ l[j + 1]
theorem upTo_zero {l : List Int} {q : Nat} (h : q = 0) : UpTo l (q + 1):=fun j hj h' => by omega
theorem upTo_step {l : List Int} {q k : Nat} (hk : q = k + 1) (h : UpTo l q) (hq : q < l.length) (hle : l[k]'(by omega) ≤ l[q]) : UpTo l (q + 1):=fun j hj h' => by
 rcases Nat.lt_or_ge (j + 1) q with g | g
 ·exact h j hj g
 ·subst hk
  obtain rfl : j = k:=by omega
  exact hle
theorem upTo_all {l : List Int} {q : Nat} (h : UpTo l q) (hq : l.length ≤ q) : risB l = true:=(ris_iff l).2 fun j hj => h j hj (by omega)

abbrev opF0 : Oper := { dst:=some 64,op:=Op.fieldAddr 59 (Operand.tmp 6) 0,type := 0,pos := "ref.go:124",after:=#[],guard:=none }
abbrev opF1 : Oper := { dst:=some 65,op:=Op.load 9 (Operand.tmp 64),type := 9,pos := "ref.go:124",after:=#[{ on := 0,ground:=Ground.data }],guard:=none }
abbrev opF2 : Oper := { dst:=some 66,op:=Op.call { callee:=Callee.value (Operand.func 32),args:=#[Operand.tmp 65],argTypes:=#[9] },type := 4,pos := "ref.go:124",after:=#[{ on := 1,ground:=Ground.data }],guard:=none }
abbrev opF3 : Oper := { dst:=some 67,op:=Op.unOp UnOp.not 4 (Operand.tmp 66),type := 4,pos := "ref.go:124",after:=#[{ on := 2,ground:=Ground.data }],guard:=none }
abbrev opF4 : Oper := { dst:=some 68,op:=Op.move (Operand.tmp 67),type := 4,pos := "ref.go:124",after:=#[{ on := 3,ground:=Ground.data }, { on := 2,ground:=Ground.chain }],guard:=none }
abbrev opF5 : Oper := { dst:=some 69,op:=Op.fieldAddr 59 (Operand.tmp 6) 1,type := 0,pos := "ref.go:124",after:=#[{ on := 4,ground:=Ground.guard }],guard:=some (4,false) }
abbrev opF6 : Oper := { dst:=some 70,op:=Op.load 3 (Operand.tmp 69),type := 3,pos := "ref.go:124",after:=#[{ on := 5,ground:=Ground.data }, { on := 4,ground:=Ground.guard }],guard:=some (4,false) }
abbrev opF7 : Oper := { dst:=some 71,op:=Op.binOp BinOp.lss 3 (Operand.tmp 70) (Operand.const (Value.int IntKind.i64 0)) 3,type := 4,pos := "ref.go:124",after:=#[{ on := 6,ground:=Ground.data }, { on := 4,ground:=Ground.guard }],guard:=some (4,false) }
abbrev opF8 : Oper := { dst:=some 72,op:=Op.pick (Operand.tmp 68) (Operand.const (Value.bool true)) (Operand.tmp 71),type := 4,pos := "ref.go:124",after:=#[{ on := 4,ground:=Ground.data }, { on := 7,ground:=Ground.data }],guard:=none }
abbrev opF9 : Oper := { dst:=some 73,op:=Op.move (Operand.tmp 72),type := 4,pos := "ref.go:124",after:=#[{ on := 8,ground:=Ground.data }, { on := 4,ground:=Ground.chain }],guard:=none }
abbrev opF10 : Oper := { dst:=some 74,op:=Op.fieldAddr 59 (Operand.tmp 6) 1,type := 0,pos := "ref.go:124",after:=#[{ on := 9,ground:=Ground.guard }],guard:=some (9,false) }
abbrev opF11 : Oper := { dst:=some 75,op:=Op.load 3 (Operand.tmp 74),type := 3,pos := "ref.go:124",after:=#[{ on := 10,ground:=Ground.data }, { on := 9,ground:=Ground.guard }],guard:=some (9,false) }
abbrev opF12 : Oper := { dst:=some 76,op:=Op.move (Operand.tmp 3),type := 3,pos := "ref.go:124",after:=#[{ on := 9,ground:=Ground.guard }],guard:=some (9,false) }
abbrev opF13 : Oper := { dst:=some 77,op:=Op.binOp BinOp.geq 3 (Operand.tmp 75) (Operand.tmp 76) 3,type := 4,pos := "ref.go:124",after:=#[{ on := 11,ground:=Ground.data }, { on := 12,ground:=Ground.data }, { on := 9,ground:=Ground.guard }],guard:=some (9,false) }
abbrev opF14 : Oper := { dst:=some 78,op:=Op.pick (Operand.tmp 73) (Operand.const (Value.bool true)) (Operand.tmp 77),type := 4,pos := "ref.go:124",after:=#[{ on := 9,ground:=Ground.data }, { on := 13,ground:=Ground.data }],guard:=none }
abbrev opF15 : Oper := { dst:=some 79,op:=Op.move (Operand.tmp 78),type := 4,pos := "ref.go:124",after:=#[{ on := 14,ground:=Ground.data }, { on := 9,ground:=Ground.chain }],guard:=none }
abbrev opF16 : Oper := { dst:=some 80,op:=Op.move (Operand.tmp 5),type := 3,pos := "ref.go:124",after:=#[{ on := 15,ground:=Ground.guard }],guard:=some (15,false) }
abbrev opF17 : Oper := { dst:=some 81,op:=Op.binOp BinOp.gtr 3 (Operand.tmp 80) (Operand.const (Value.int IntKind.i64 0)) 3,type := 4,pos := "ref.go:124",after:=#[{ on := 16,ground:=Ground.data }, { on := 15,ground:=Ground.guard }],guard:=some (15,false) }
abbrev opF18 : Oper := { dst:=some 82,op:=Op.move (Operand.tmp 81),type := 4,pos := "ref.go:124",after:=#[{ on := 17,ground:=Ground.data }, { on := 15,ground:=Ground.chain }, { on := 15,ground:=Ground.guard }],guard:=some (15,false) }
abbrev opF19 : Oper := { dst:=some 83,op:=Op.fieldAddr 59 (Operand.tmp 6) 1,type := 0,pos := "ref.go:124",after:=#[{ on := 18,ground:=Ground.guard }],guard:=some (18,true) }
abbrev opF20 : Oper := { dst:=some 84,op:=Op.load 3 (Operand.tmp 83),type := 3,pos := "ref.go:124",after:=#[{ on := 19,ground:=Ground.data }, { on := 18,ground:=Ground.guard }],guard:=some (18,true) }
abbrev opF21 : Oper := { dst:=some 85,op:=Op.fieldAddr 26 (Operand.tmp 1) 1,type := 0,pos := "ref.go:124",after:=#[{ on := 18,ground:=Ground.guard }],guard:=some (18,true) }
abbrev opF22 : Oper := { dst:=some 86,op:=Op.load 23 (Operand.tmp 85),type := 23,pos := "ref.go:124",after:=#[{ on := 21,ground:=Ground.data }, { on := 18,ground:=Ground.guard }],guard:=some (18,true) }
abbrev opF23 : Oper := { dst:=some 87,op:=Op.move (Operand.tmp 5),type := 3,pos := "ref.go:124",after:=#[{ on := 18,ground:=Ground.guard }],guard:=some (18,true) }
abbrev opF24 : Oper := { dst:=some 88,op:=Op.binOp BinOp.sub 3 (Operand.tmp 87) (Operand.const (Value.int IntKind.i64 1)) 3,type := 3,pos := "ref.go:124",after:=#[{ on := 23,ground:=Ground.data }, { on := 18,ground:=Ground.guard }],guard:=some (18,true) }
abbrev opF25 : Oper := { dst:=some 89,op:=Op.indexAddr 23 (Operand.tmp 86) (Operand.tmp 88),type := 0,pos := "ref.go:124",after:=#[{ on := 22,ground:=Ground.data }, { on := 24,ground:=Ground.data }, { on := 18,ground:=Ground.guard }],guard:=some (18,true) }
abbrev opF26 : Oper := { dst:=some 90,op:=Op.fieldAddr 59 (Operand.tmp 89) 1,type := 0,pos := "ref.go:124",after:=#[{ on := 25,ground:=Ground.data }, { on := 18,ground:=Ground.guard }],guard:=some (18,true) }
abbrev opF27 : Oper := { dst:=some 91,op:=Op.load 3 (Operand.tmp 90),type := 3,pos := "ref.go:124",after:=#[{ on := 26,ground:=Ground.data }, { on := 18,ground:=Ground.guard }],guard:=some (18,true) }
abbrev opF28 : Oper := { dst:=some 92,op:=Op.binOp BinOp.lss 3 (Operand.tmp 84) (Operand.tmp 91) 3,type := 4,pos := "ref.go:124",after:=#[{ on := 20,ground:=Ground.data }, { on := 27,ground:=Ground.data }, { on := 18,ground:=Ground.guard }],guard:=some (18,true) }
abbrev opF29 : Oper := { dst:=some 93,op:=Op.pick (Operand.tmp 82) (Operand.tmp 92) (Operand.const (Value.bool false)),type := 4,pos := "ref.go:124",after:=#[{ on := 18,ground:=Ground.data }, { on := 28,ground:=Ground.data }, { on := 15,ground:=Ground.guard }],guard:=some (15,false) }
abbrev opF30 : Oper := { dst:=some 94,op:=Op.pick (Operand.tmp 79) (Operand.const (Value.bool true)) (Operand.tmp 93),type := 4,pos := "ref.go:124",after:=#[{ on := 15,ground:=Ground.data }, { on := 29,ground:=Ground.data }],guard:=none }
abbrev opF31 : Oper := { dst:=some 95,op:=Op.move (Operand.tmp 94),type := 4,pos := "ref.go:124",after:=#[{ on := 30,ground:=Ground.data }, { on := 18,ground:=Ground.chain }],guard:=none }
abbrev opF32 : Oper := { dst:=some 96,op:=Op.fieldAddr 59 (Operand.tmp 6) 2,type := 0,pos := "ref.go:124",after:=#[{ on := 31,ground:=Ground.guard }],guard:=some (31,false) }
abbrev opF33 : Oper := { dst:=some 97,op:=Op.load 28 (Operand.tmp 96),type := 28,pos := "ref.go:124",after:=#[{ on := 32,ground:=Ground.data }, { on := 31,ground:=Ground.guard }],guard:=some (31,false) }
abbrev opF34 : Oper := { dst:=some 98,op:=Op.move (Operand.tmp 3),type := 3,pos := "ref.go:124",after:=#[{ on := 31,ground:=Ground.guard }],guard:=some (31,false) }
abbrev opF35 : Oper := { dst:=some 99,op:=Op.call { callee:=Callee.value (Operand.func 33),args:=#[Operand.tmp 97,Operand.const (Value.int IntKind.i64 1),Operand.tmp 98],argTypes:=#[28,3,3] },type := 4,pos := "ref.go:124",after:=#[{ on := 33,ground:=Ground.data }, { on := 34,ground:=Ground.data }, { on := 31,ground:=Ground.chain }, { on := 31,ground:=Ground.guard }],guard:=some (31,false) }
abbrev opF36 : Oper := { dst:=some 100,op:=Op.unOp UnOp.not 4 (Operand.tmp 99),type := 4,pos := "ref.go:124",after:=#[{ on := 35,ground:=Ground.data }, { on := 31,ground:=Ground.guard }],guard:=some (31,false) }
abbrev opF37 : Oper := { dst:=some 101,op:=Op.pick (Operand.tmp 95) (Operand.const (Value.bool true)) (Operand.tmp 100),type := 4,pos := "ref.go:124",after:=#[{ on := 31,ground:=Ground.data }, { on := 36,ground:=Ground.data }],guard:=none }
abbrev opM0 : Oper := { dst:=some 114,op:=Op.fieldAddr 47 (Operand.tmp 8) 1,type := 0,pos := "ref.go:130",after:=#[],guard:=none }
abbrev opM1 : Oper := { dst:=some 115,op:=Op.load 3 (Operand.tmp 114),type := 3,pos := "ref.go:130",after:=#[{ on := 0,ground:=Ground.data }],guard:=none }
abbrev opM2 : Oper := { dst:=some 116,op:=Op.binOp BinOp.lss 3 (Operand.tmp 115) (Operand.const (Value.int IntKind.i64 0)) 3,type := 4,pos := "ref.go:130",after:=#[{ on := 1,ground:=Ground.data }],guard:=none }
abbrev opM3 : Oper := { dst:=some 117,op:=Op.move (Operand.tmp 116),type := 4,pos := "ref.go:130",after:=#[{ on := 2,ground:=Ground.data }],guard:=none }
abbrev opM4 : Oper := { dst:=some 118,op:=Op.fieldAddr 47 (Operand.tmp 8) 1,type := 0,pos := "ref.go:130",after:=#[{ on := 3,ground:=Ground.guard }],guard:=some (3,false) }
abbrev opM5 : Oper := { dst:=some 119,op:=Op.load 3 (Operand.tmp 118),type := 3,pos := "ref.go:130",after:=#[{ on := 4,ground:=Ground.data }, { on := 3,ground:=Ground.guard }],guard:=some (3,false) }
abbrev opM6 : Oper := { dst:=some 120,op:=Op.move (Operand.tmp 3),type := 3,pos := "ref.go:130",after:=#[{ on := 3,ground:=Ground.guard }],guard:=some (3,false) }
abbrev opM7 : Oper := { dst:=some 121,op:=Op.binOp BinOp.geq 3 (Operand.tmp 119) (Operand.tmp 120) 3,type := 4,pos := "ref.go:130",after:=#[{ on := 5,ground:=Ground.data }, { on := 6,ground:=Ground.data }, { on := 3,ground:=Ground.guard }],guard:=some (3,false) }
abbrev opM8 : Oper := { dst:=some 122,op:=Op.pick (Operand.tmp 117) (Operand.const (Value.bool true)) (Operand.tmp 121),type := 4,pos := "ref.go:130",after:=#[{ on := 3,ground:=Ground.data }, { on := 7,ground:=Ground.data }],guard:=none }
abbrev opM9 : Oper := { dst:=some 123,op:=Op.move (Operand.tmp 122),type := 4,pos := "ref.go:130",after:=#[{ on := 8,ground:=Ground.data }, { on := 3,ground:=Ground.chain }],guard:=none }
abbrev opM10 : Oper := { dst:=some 124,op:=Op.move (Operand.tmp 7),type := 3,pos := "ref.go:130",after:=#[{ on := 9,ground:=Ground.guard }],guard:=some (9,false) }
abbrev opM11 : Oper := { dst:=some 125,op:=Op.binOp BinOp.gtr 3 (Operand.tmp 124) (Operand.const (Value.int IntKind.i64 0)) 3,type := 4,pos := "ref.go:130",after:=#[{ on := 10,ground:=Ground.data }, { on := 9,ground:=Ground.guard }],guard:=some (9,false) }
abbrev opM12 : Oper := { dst:=some 126,op:=Op.move (Operand.tmp 125),type := 4,pos := "ref.go:130",after:=#[{ on := 11,ground:=Ground.data }, { on := 9,ground:=Ground.chain }, { on := 9,ground:=Ground.guard }],guard:=some (9,false) }
abbrev opM13 : Oper := { dst:=some 127,op:=Op.fieldAddr 47 (Operand.tmp 8) 1,type := 0,pos := "ref.go:130",after:=#[{ on := 12,ground:=Ground.guard }],guard:=some (12,true) }
abbrev opM14 : Oper := { dst:=some 128,op:=Op.load 3 (Operand.tmp 127),type := 3,pos := "ref.go:130",after:=#[{ on := 13,ground:=Ground.data }, { on := 12,ground:=Ground.guard }],guard:=some (12,true) }
abbrev opM15 : Oper := { dst:=some 129,op:=Op.fieldAddr 26 (Operand.tmp 1) 2,type := 0,pos := "ref.go:130",after:=#[{ on := 12,ground:=Ground.guard }],guard:=some (12,true) }
abbrev opM16 : Oper := { dst:=some 130,op:=Op.load 24 (Operand.tmp 129),type := 24,pos := "ref.go:130",after:=#[{ on := 15,ground:=Ground.data }, { on := 12,ground:=Ground.guard }],guard:=some (12,true) }
abbrev opM17 : Oper := { dst:=some 131,op:=Op.move (Operand.tmp 7),type := 3,pos := "ref.go:130",after:=#[{ on := 12,ground:=Ground.guard }],guard:=some (12,true) }
abbrev opM18 : Oper := { dst:=some 132,op:=Op.binOp BinOp.sub 3 (Operand.tmp 131) (Operand.const (Value.int IntKind.i64 1)) 3,type := 3,pos := "ref.go:130",after:=#[{ on := 17,ground:=Ground.data }, { on := 12,ground:=Ground.guard }],guard:=some (12,true) }
abbrev opM19 : Oper := { dst:=some 133,op:=Op.indexAddr 24 (Operand.tmp 130) (Operand.tmp 132),type := 0,pos := "ref.go:130",after:=#[{ on := 16,ground:=Ground.data }, { on := 18,ground:=Ground.data }, { on := 12,ground:=Ground.guard }],guard:=some (12,true) }
abbrev opM20 : Oper := { dst:=some 134,op:=Op.fieldAddr 47 (Operand.tmp 133) 1,type := 0,pos := "ref.go:130",after:=#[{ on := 19,ground:=Ground.data }, { on := 12,ground:=Ground.guard }],guard:=some (12,true) }
abbrev opM21 : Oper := { dst:=some 135,op:=Op.load 3 (Operand.tmp 134),type := 3,pos := "ref.go:130",after:=#[{ on := 20,ground:=Ground.data }, { on := 12,ground:=Ground.guard }],guard:=some (12,true) }
abbrev opM22 : Oper := { dst:=some 136,op:=Op.binOp BinOp.lss 3 (Operand.tmp 128) (Operand.tmp 135) 3,type := 4,pos := "ref.go:130",after:=#[{ on := 14,ground:=Ground.data }, { on := 21,ground:=Ground.data }, { on := 12,ground:=Ground.guard }],guard:=some (12,true) }
abbrev opM23 : Oper := { dst:=some 137,op:=Op.pick (Operand.tmp 126) (Operand.tmp 136) (Operand.const (Value.bool false)),type := 4,pos := "ref.go:130",after:=#[{ on := 12,ground:=Ground.data }, { on := 22,ground:=Ground.data }, { on := 9,ground:=Ground.guard }],guard:=some (9,false) }
abbrev opM24 : Oper := { dst:=some 138,op:=Op.pick (Operand.tmp 123) (Operand.const (Value.bool true)) (Operand.tmp 137),type := 4,pos := "ref.go:130",after:=#[{ on := 9,ground:=Ground.data }, { on := 23,ground:=Ground.data }],guard:=none }
abbrev opM25 : Oper := { dst:=some 139,op:=Op.move (Operand.tmp 138),type := 4,pos := "ref.go:130",after:=#[{ on := 24,ground:=Ground.data }, { on := 12,ground:=Ground.chain }],guard:=none }
abbrev opM26 : Oper := { dst:=some 140,op:=Op.load 47 (Operand.tmp 8),type := 47,pos := "ref.go:130",after:=#[{ on := 25,ground:=Ground.guard }],guard:=some (25,false) }
abbrev opM27 : Oper := { dst:=some 141,op:=Op.load 26 (Operand.tmp 1),type := 26,pos := "ref.go:130",after:=#[{ on := 25,ground:=Ground.guard }],guard:=some (25,false) }
abbrev opM28 : Oper := { dst:=some 142,op:=Op.call { callee:=Callee.value (Operand.func 34),args:=#[Operand.tmp 140,Operand.tmp 141],argTypes:=#[47,26] },type := 4,pos := "ref.go:130",after:=#[{ on := 26,ground:=Ground.data }, { on := 27,ground:=Ground.data }, { on := 25,ground:=Ground.chain }, { on := 25,ground:=Ground.guard }],guard:=some (25,false) }
abbrev opM29 : Oper := { dst:=some 143,op:=Op.unOp UnOp.not 4 (Operand.tmp 142),type := 4,pos := "ref.go:130",after:=#[{ on := 28,ground:=Ground.data }, { on := 25,ground:=Ground.guard }],guard:=some (25,false) }
abbrev opM30 : Oper := { dst:=some 144,op:=Op.pick (Operand.tmp 139) (Operand.const (Value.bool true)) (Operand.tmp 143),type := 4,pos := "ref.go:130",after:=#[{ on := 25,ground:=Ground.data }, { on := 29,ground:=Ground.data }],guard:=none }

set_option maxHeartbeats 16000000 in
set_option maxRecDepth 100000 in
theorem refFormed_any {g : Img} {w : World} (hg : Im w g) (hn : g.nmOk) :
  Calls Tryd.prog 22 #[imV g] w fun e w' => e = .returned (.bool (imB g))∧Below w.heap.size w w':=by
 obtain ⟨w0,hw0⟩ : ∃ W,W = w.alloc (.cells (imA g) 26):=⟨_,rfl⟩
 have HW0 : Hid (w0 = _):=hw0
 have hb0 : Below w.heap.size w w0:=by rw [hw0]; exact made_below _ _ _
 have HB0 : Hid (Below w.heap.size w w0):=hb0
 have hA : At w0 w.heap.size (imA g) 26:=by rw [hw0]; exact At.made _ _ _
 have HAT : Hid (∀ W,Below w0.heap.size w0 W → At W w.heap.size (imA g) 26):=fun W hW => hA.later hW
 have HXt : Hid (∀ W,Below w0.heap.size w0 W → Es tdE W (.slice g.ta g.ts.length g.tc) g.ts):=fun W hW => hg.ts.later (bstep hb0 hW)
 have HXf : Hid (∀ W,Below w0.heap.size w0 W → Es fdE W (.slice g.fa g.fs.length g.fc) g.fs):=fun W hW => hg.fs.later (bstep hb0 hW)
 have HXm : Hid (∀ W,Below w0.heap.size w0 W → Es mdE W (.slice g.ma g.ms.length g.mc) g.ms):=fun W hW => hg.ms.later (bstep hb0 hW)
 have HTok : Hid (∀ W,Below w0.heap.size w0 W → ∀ x ∈ g.ts,x.ok W):=fun W hW x hx => (hg.tok x hx).later (bstep hb0 hW)
 have HMok : Hid (∀ W,Below w0.heap.size w0 W → ∀ x ∈ g.ms,x.ok W):=fun W hW x hx => (hg.mok x hx).later (bstep hb0 hW)
 have HN1 : Hid (∀ x ∈ g.ts,x.nm.size ≤ maxLen):=hn.ts
 have HN2 : Hid (∀ x ∈ g.fs,x.nm.size ≤ maxLen):=hn.fs
 have HN3 : Hid (∀ x ∈ g.ms,x.nm.size ≤ maxLen):=hn.ms
 have htl:=hg.ts.len
 have hfl:=hg.fs.len
 have hml:=hg.ms.len
 unfold maxLen at htl hfl hml
 have c1:=hA.cell
 have HF : Hid (imB g = (decide (g.ts.length ≤ 32) && decide (g.fs.length ≤ 64) && decide (g.ms.length ≤ 64) && g.ts.all (tdB g.ts.length) && (g.fs.all (fdB g.ts.length) && risB (g.fs.map (·.ow))) && (g.ms.all (mdB g.ts.length g.fs.length g.ms.length) && risB (g.ms.map (·.ow))) && (decide (g.en = -1) || (decide (0 ≤ g.en) && decide (g.en < g.ms.length))))):=rfl
 have HBt : Hid (g.ts.all (tdB g.ts.length) = false → imB g = false):=fun h => by rw [HF.out,h]; simp
 have HBf : Hid (g.fs.all (fdB g.ts.length) = false → imB g = false):=fun h => by rw [HF.out,h]; simp
 have HBf2 : Hid (risB (g.fs.map (·.ow)) = false → imB g = false):=fun h => by rw [HF.out,h]; simp
 have HBm : Hid (g.ms.all (mdB g.ts.length g.fs.length g.ms.length) = false → imB g = false):=fun h => by rw [HF.out,h]; simp
 have HBm2 : Hid (risB (g.ms.map (·.ow)) = false → imB g = false):=fun h => by rw [HF.out,h]; simp
 unfold imA at c1 HW0
 clear hw0 hb0 hA hg hn
 unfold imV
 go_enter Tryd.func22,Tryd.ntmps22
 by_cases h32 : 32 < g.ts.length
 ·have i1 : (32 : Int) < (g.ts.length : Int):=by omega
  go_wp2_with (rw [← HW0.out])
  go_ret
  exact ⟨ret_bool (by rw [HF.out,decide_eq_false (show ¬ g.ts.length ≤ 32 by omega)]; rfl),HB0.out⟩
 have i1 : ¬ (32 : Int) < (g.ts.length : Int):=by omega
 by_cases h64 : 64 < g.fs.length
 ·have i2 : (64 : Int) < (g.fs.length : Int):=by omega
  go_wp2_with (rw [← HW0.out])
  go_ret
  exact ⟨ret_bool (by rw [HF.out,decide_eq_false (show ¬ g.fs.length ≤ 64 by omega)]; simp),HB0.out⟩
 have i2 : ¬ (64 : Int) < (g.fs.length : Int):=by omega
 by_cases h6m : 64 < g.ms.length
 ·have i3 : (64 : Int) < (g.ms.length : Int):=by omega
  go_wp2_with (rw [← HW0.out])
  go_ret
  exact ⟨ret_bool (by rw [HF.out,decide_eq_false (show ¬ g.ms.length ≤ 64 by omega)]; simp),HB0.out⟩
 have i3 : ¬ (64 : Int) < (g.ms.length : Int):=by omega
 by_cases he1 : g.en < -1
 ·go_wp2_with (rw [← HW0.out])
  go_ret
  exact ⟨ret_bool (by rw [HF.out,show (decide (g.en = -1) || (decide (0 ≤ g.en) && decide (g.en < g.ms.length))) = false by simp; omega]; simp),HB0.out⟩
 by_cases he2 : (g.ms.length : Int) ≤ g.en
 ·go_wp2_with (rw [← HW0.out])
  go_ret
  exact ⟨ret_bool (by rw [HF.out,show (decide (g.en = -1) || (decide (0 ≤ g.en) && decide (g.en < g.ms.length))) = false by simp; omega]; simp),HB0.out⟩
 have HOK : Hid (g.ts.all (tdB g.ts.length) = true → g.fs.all (fdB g.ts.length) = true → risB (g.fs.map (·.ow)) = true → g.ms.all (mdB g.ts.length g.fs.length g.ms.length) = true → risB (g.ms.map (·.ow)) = true → imB g = true):=fun q1 q2 q3 q4 q5 => by
  rw [HF.out,q1,q2,q3,q4,q5,decide_eq_true (show g.ts.length ≤ 32 by omega),decide_eq_true (show g.fs.length ≤ 64 by omega),decide_eq_true (show g.ms.length ≤ 64 by omega),show (decide (g.en = -1) || (decide (0 ≤ g.en) && decide (g.en < g.ms.length))) = true by simp; omega]; rfl
 clear HF
 go_wp2_with (rw [← HW0.out])
 clear c1 h32 h64 h6m he1 he2
 go_loopw [4] (fun z wr => ∃ q : Nat,q ≤ g.ts.length∧z = .int .i64 q∧Below w0.heap.size w0 wr∧Hid ((g.ts.take q).all (tdB g.ts.length) = true)) (fun z _ => g.ts.length - (intOf z).toNat)
 case atStart => exact ⟨0,Nat.zero_le _,rfl,Below.refl _ _,by show _ = _; simp⟩
 case round =>
  obtain ⟨q,hq,rfl,hB,HA⟩:=hrel
  have HBr : Hid (Below w0.heap.size w0 wr):=hB
  by_cases hql : q < g.ts.length
  ·obtain ⟨b,off,hfa,hb,h6,h7,hc⟩:=(HXt.out wr hB).at hql
   have d1:=HAT.out wr hB
   unfold imA at d1
   rw [hfa] at d1
   have c1:=d1.cell
   obtain ⟨k0,k1,k2,k3⟩:=(show El tdE wr b (off + q * 4) g.ts[q] from hc q hql).cells_T
   have HY : Hid (tdB g.ts.length g.ts[q] = true → (g.ts.take (q + 1)).all (tdB g.ts.length) = true):=fun h => all_step hql HA.out h
   have HN : Hid (tdB g.ts.length g.ts[q] = false → imB g = false):=fun h => HBt.out (all_no hql h)
   have HMy : Hid (Calls Tryd.prog 31 #[.agg (tdA g.ts[q]),.int .i64 g.ts.length] wr fun e w' => e = .returned (.bool (tdB g.ts.length g.ts[q]))∧Below wr.heap.size wr w'):=refFormedType_any g.ts.length g.ts[q] (HTok.out wr hB _ (List.getElem_mem hql)) (HN1.out _ (List.getElem_mem hql))
   generalize g.ts[q] = y at *
   unfold maxLen at h7
   unfold tdA at HMy
   clear hfa hc hB d1
   go_wp2_with fail
   refine Calls.mono HMy.out ?_
   rintro e w2 ⟨rfl,hb2⟩
   have HB2 : Hid (Below w0.heap.size w0 w2):=bstep HBr.out hb2
   clear c1 k0 k1 k2 k3 HMy hb2
   cases hm : tdB g.ts.length y with
   | false =>
    have HBad : Hid _:=HN.out hm
    go_wp2_with fail
    go_ret
    exact ⟨ret_bool HBad.out.symm,bstep HB0.out HB2.out⟩
   | true =>
    have HY2 : Hid _:=HY.out hm
    clear HY HN
    go_wp2_with fail
    go_roundw
    case rel => exact ⟨q + 1,by omega,by go_num,HB2.out,HY2.out⟩
    case measure => simp [intOf]; omega
  have HT1 : Hid (g.ts.all (tdB g.ts.length) = true):=all_done hql HA.out
  have c1:=(HAT.out wr hB).cell
  unfold imA at c1
  clear HA hB
  go_wp2_with fail
  clear c1
  have HNm:=HN2
  go_loopw [5] (fun z wr2 => ∃ q : Nat,q ≤ g.fs.length∧z = .int .i64 q∧Below w0.heap.size w0 wr2∧Hid ((g.fs.take q).all (fdB g.ts.length) = true)∧Hid (UpTo (g.fs.map (·.ow)) q)) (fun z _ => g.fs.length - (intOf z).toNat)
  case atStart => exact ⟨0,Nat.zero_le _,rfl,HBr.out,by show _ = _; simp,fun j hj h => by omega⟩
  case round =>
   obtain ⟨q,hq,rfl,hB,HA,HZ⟩:=hrel
   have HBr : Hid (Below w0.heap.size w0 wr):=hB
   by_cases hql : q < g.fs.length
   ·have HOR : Hid (∀ W,Below w0.heap.size w0 W → Es fdE W (.slice g.fa g.fs.length g.fc) g.fs):=HXf
    obtain ⟨b,off,hfa,hb,h6,h7,hc⟩:=(HOR.out wr hB).at hql
    have HCs : Hid (∀ i (hi : i < g.fs.length),El fdE wr b (off + i * 7) g.fs[i]):=hc
    have HIm : Hid (∀ W,Below w0.heap.size w0 W → At W w.heap.size #[.slice g.ta g.ts.length g.tc,.slice (some ⟨b,off,none⟩) g.fs.length g.fc,.slice g.ma g.ms.length g.mc,.int .i64 g.en] 26):=fun W hW => by
     have:=HAT.out W hW
     unfold imA at this
     rw [hfa] at this
     exact this
    have HMem : Hid (g.fs[q] ∈ g.fs):=List.getElem_mem hql
    have HY : Hid (fdB g.ts.length g.fs[q] = true → (g.fs.take (q + 1)).all (fdB g.ts.length) = true):=fun h => all_step hql HA.out h
    have HN : Hid (fdB g.ts.length g.fs[q] = false → imB g = false):=fun h => HBf.out (all_no hql h)
    have HZ0 : Hid (q = 0 → UpTo (g.fs.map (·.ow)) (q + 1)):=fun h => upTo_zero h
    have HZk : Hid (∀ k (h : k < g.fs.length),q = k + 1 → g.fs[k].ow ≤ g.fs[q].ow → UpTo (g.fs.map (·.ow)) (q + 1)):=fun k h hk hle => upTo_step hk HZ.out (by simpa using hql) (by subst hk; simpa using hle)
    have HNk : Hid (∀ k (h : k < g.fs.length),q = k + 1 → g.fs[q].ow < g.fs[k].ow → imB g = false):=fun k h hk hlt => HBf2.out (ris_no (k:=k) (by subst hk; simpa using hql) (by subst hk; simpa using hlt))
    have hcq:=(show El fdE wr b (off + q * 7) g.fs[q] from HCs.out q hql).cells_F
    generalize g.fs[q] = y at *
    obtain ⟨k0,k1,k2,k3,k4,k5,k6⟩:=hcq
    have d1:=(HIm.out wr hB).cell
    unfold maxLen at h7
    obtain ⟨wA,hwA⟩ : ∃ W,W = wr.alloc (.cells (fdA y) 59):=⟨_,rfl⟩
    have HWA : Hid (wA = _):=hwA
    have hbA : Below wr.heap.size wr wA:=by rw [hwA]; exact made_below _ _ _
    have HBw : Hid (Below wr.heap.size wr wA):=hbA
    have HBA : Hid (Below w0.heap.size w0 wA):=bstep hB hbA
    have hAA : At wA wr.heap.size (fdA y) 59:=by rw [hwA]; exact At.made _ _ _
    have HK : Hid (∀ W,Below wA.heap.size wA W → W.cell? ⟨wr.heap.size,0,none⟩ = some (.string y.nm)∧W.cell? ⟨wr.heap.size,1,none⟩ = some (.int .i64 y.ow)∧W.cell? ⟨wr.heap.size,2,none⟩ = some (.int .i64 y.t.1)∧W.cell? ⟨wr.heap.size,3,none⟩ = some (.int .i64 y.t.2.1)∧W.cell? ⟨wr.heap.size,4,none⟩ = some (.int .i64 y.t.2.2.1)∧W.cell? ⟨wr.heap.size,5,none⟩ = some (.bool y.t.2.2.2)∧W.cell? ⟨wr.heap.size,6,none⟩ = some (.bool y.st)∧W.cell? ⟨w.heap.size,0,none⟩ = some (.slice g.ta g.ts.length g.tc)∧W.cell? ⟨w.heap.size,1,none⟩ = some (.slice (some ⟨b,off,none⟩) g.fs.length g.fc)∧W.cell? ⟨w.heap.size,2,none⟩ = some (.slice g.ma g.ms.length g.mc)∧W.cell? ⟨w.heap.size,3,none⟩ = some (.int .i64 g.en)):=fun W hW => by
     have hx:=hAA.later hW
     have hi:=HIm.out W (bstep HBA.out hW)
     exact ⟨hx.cell 0,hx.cell 1,hx.cell 2,hx.cell 3,hx.cell 4,hx.cell 5,hx.cell 6,hi.cell 0,hi.cell 1,hi.cell 2,hi.cell 3⟩
    have HFn : Hid (∀ W,Calls Tryd.prog 32 #[.string y.nm] W fun e w' => e = .returned (.bool (fineB y.nm.data.toList))∧w' = W):=fun W => refFine_any y.nm (HNm.out y HMem.out) W
    have HMy : Hid (∀ W,Calls Tryd.prog 33 #[.agg #[.int .i64 y.t.1,.int .i64 y.t.2.1,.int .i64 y.t.2.2.1,.bool y.t.2.2.2],.int .i64 1,.int .i64 g.ts.length] W fun e w' => e = .returned (.bool (mB 1 g.ts.length y.t))∧Below W.heap.size W w'):=fun W => refMay_any (p := 1) (.inl rfl) y.t g.ts.length W
    unfold fdA at HWA
    clear hfa hwA hbA hAA hc hB HOR HA HZ
    go_wp2_with (rw [← HWA.out])
    clear k0 k1 k2 k3 k4 k5 k6 d1
    cases hfi : fineB y.nm.data.toList with
    | false =>
     have HBad : Hid (imB g = false):=HN.out (by unfold fdB; rw [hfi]; simp)
     rw [hfi] at HFn
     clear hfi HY HN HZ0 HZk HNk
     refine wp_region_held_drew (S:=(fun W : World => W.cell? ⟨wr.heap.size,0,none⟩ = some (.string y.nm)∧W.cell? ⟨wr.heap.size,1,none⟩ = some (.int .i64 y.ow)∧W.cell? ⟨wr.heap.size,2,none⟩ = some (.int .i64 y.t.1)∧W.cell? ⟨wr.heap.size,3,none⟩ = some (.int .i64 y.t.2.1)∧W.cell? ⟨wr.heap.size,4,none⟩ = some (.int .i64 y.t.2.2.1)∧W.cell? ⟨wr.heap.size,5,none⟩ = some (.bool y.t.2.2.2)∧W.cell? ⟨wr.heap.size,6,none⟩ = some (.bool y.st)∧W.cell? ⟨w.heap.size,0,none⟩ = some (.slice g.ta g.ts.length g.tc)∧W.cell? ⟨w.heap.size,1,none⟩ = some (.slice (some ⟨b,off,none⟩) g.fs.length g.fc)∧W.cell? ⟨w.heap.size,2,none⟩ = some (.slice g.ma g.ms.length g.mc)∧W.cell? ⟨w.heap.size,3,none⟩ = some (.int .i64 g.en))) (by kernel_rfl) (HK.out _ (bdrew _)) (fun hHeld => ?_)
     refine tY 0 opF0 (.pointer (some ⟨wr.heap.size,0,none⟩)) hHeld ?_
     refine tY 1 opF1 (.string y.nm) hHeld ?_
     refine wpAnyH_ready (rs := [2]) (by kernel_rfl) (by simp) ?_
     refine AllReadyH.cons (o:=opF2) rfl (fun K hK => ?_) AllReadyH.nil
     go_simp
     refine (HFn.out _).mono ?_
     rintro e wz ⟨rfl,hz⟩
     subst wz
     have hBc : Below wA.heap.size wA wA.drew:=bdrew wA
     try go_wp2_with fail
     refine hK.out _ _ (HK.out _ hBc) (fun hHeld => ?_)
     clear hK K
     try simp only [Act.put,sA,s0,sS]
     refine tY 3 opF3 (.bool true) hHeld ?_
     refine tY 4 opF4 (.bool true) hHeld ?_
     refine tN 5 opF5 hHeld ?_
     refine tN 6 opF6 hHeld ?_
     refine tN 7 opF7 hHeld ?_
     refine tY 8 opF8 (.bool true) hHeld ?_
     refine tY 9 opF9 (.bool true) hHeld ?_
     refine tN 10 opF10 hHeld ?_
     refine tN 11 opF11 hHeld ?_
     refine tN 12 opF12 hHeld ?_
     refine tN 13 opF13 hHeld ?_
     refine tY 14 opF14 (.bool true) hHeld ?_
     refine tY 15 opF15 (.bool true) hHeld ?_
     refine tN 16 opF16 hHeld ?_
     refine tN 17 opF17 hHeld ?_
     refine tN 18 opF18 hHeld ?_
     refine tN 19 opF19 hHeld ?_
     refine tN 20 opF20 hHeld ?_
     refine tN 21 opF21 hHeld ?_
     refine tN 22 opF22 hHeld ?_
     refine tN 23 opF23 hHeld ?_
     refine tN 24 opF24 hHeld ?_
     refine tN 25 opF25 hHeld ?_
     refine tN 26 opF26 hHeld ?_
     refine tN 27 opF27 hHeld ?_
     refine tN 28 opF28 hHeld ?_
     refine tN 29 opF29 hHeld ?_
     refine tY 30 opF30 (.bool true) hHeld ?_
     refine tY 31 opF31 (.bool true) hHeld ?_
     refine tN 32 opF32 hHeld ?_
     refine tN 33 opF33 hHeld ?_
     refine tN 34 opF34 hHeld ?_
     refine tN 35 opF35 hHeld ?_
     refine tN 36 opF36 hHeld ?_
     refine tY 37 opF37 (.bool true) hHeld ?_
     refine wpAnyH_done (by kernel_rfl) ?_ _
     have HB1 : Hid (Below w0.heap.size w0 wA.drew):=bstep HBA.out (bdrew _)
     go_wp2_with fail
     go_ret
     exact ⟨ret_bool HBad.out.symm,bstep HB0.out HB1.out⟩
    | true =>
    have HFi : Hid (fineB y.nm.data.toList = true):=hfi
    rw [hfi] at HFn
    clear hfi
    by_cases g1 : y.ow < 0
    ·have HBad : Hid (imB g = false):=HN.out (by unfold fdB numB; simp; omega)
     clear HY HN HZ0 HZk HNk
     refine wp_region_held_drew (S:=(fun W : World => W.cell? ⟨wr.heap.size,0,none⟩ = some (.string y.nm)∧W.cell? ⟨wr.heap.size,1,none⟩ = some (.int .i64 y.ow)∧W.cell? ⟨wr.heap.size,2,none⟩ = some (.int .i64 y.t.1)∧W.cell? ⟨wr.heap.size,3,none⟩ = some (.int .i64 y.t.2.1)∧W.cell? ⟨wr.heap.size,4,none⟩ = some (.int .i64 y.t.2.2.1)∧W.cell? ⟨wr.heap.size,5,none⟩ = some (.bool y.t.2.2.2)∧W.cell? ⟨wr.heap.size,6,none⟩ = some (.bool y.st)∧W.cell? ⟨w.heap.size,0,none⟩ = some (.slice g.ta g.ts.length g.tc)∧W.cell? ⟨w.heap.size,1,none⟩ = some (.slice (some ⟨b,off,none⟩) g.fs.length g.fc)∧W.cell? ⟨w.heap.size,2,none⟩ = some (.slice g.ma g.ms.length g.mc)∧W.cell? ⟨w.heap.size,3,none⟩ = some (.int .i64 g.en))) (by kernel_rfl) (HK.out _ (bdrew _)) (fun hHeld => ?_)
     refine tY 0 opF0 (.pointer (some ⟨wr.heap.size,0,none⟩)) hHeld ?_
     refine tY 1 opF1 (.string y.nm) hHeld ?_
     refine wpAnyH_ready (rs := [2]) (by kernel_rfl) (by simp) ?_
     refine AllReadyH.cons (o:=opF2) rfl (fun K hK => ?_) AllReadyH.nil
     go_simp
     refine (HFn.out _).mono ?_
     rintro e wz ⟨rfl,hz⟩
     subst wz
     have hBc : Below wA.heap.size wA wA.drew:=bdrew wA
     try go_wp2_with fail
     refine hK.out _ _ (HK.out _ hBc) (fun hHeld => ?_)
     clear hK K
     try simp only [Act.put,sA,s0,sS]
     refine tY 3 opF3 (.bool false) hHeld ?_
     refine tY 4 opF4 (.bool false) hHeld ?_
     refine tY 5 opF5 (.pointer (some ⟨wr.heap.size,1,none⟩)) hHeld ?_
     refine tY 6 opF6 (.int .i64 y.ow) hHeld ?_
     refine tY 7 opF7 (.bool true) hHeld ?_
     refine tY 8 opF8 (.bool true) hHeld ?_
     refine tY 9 opF9 (.bool true) hHeld ?_
     refine tN 10 opF10 hHeld ?_
     refine tN 11 opF11 hHeld ?_
     refine tN 12 opF12 hHeld ?_
     refine tN 13 opF13 hHeld ?_
     refine tY 14 opF14 (.bool true) hHeld ?_
     refine tY 15 opF15 (.bool true) hHeld ?_
     refine tN 16 opF16 hHeld ?_
     refine tN 17 opF17 hHeld ?_
     refine tN 18 opF18 hHeld ?_
     refine tN 19 opF19 hHeld ?_
     refine tN 20 opF20 hHeld ?_
     refine tN 21 opF21 hHeld ?_
     refine tN 22 opF22 hHeld ?_
     refine tN 23 opF23 hHeld ?_
     refine tN 24 opF24 hHeld ?_
     refine tN 25 opF25 hHeld ?_
     refine tN 26 opF26 hHeld ?_
     refine tN 27 opF27 hHeld ?_
     refine tN 28 opF28 hHeld ?_
     refine tN 29 opF29 hHeld ?_
     refine tY 30 opF30 (.bool true) hHeld ?_
     refine tY 31 opF31 (.bool true) hHeld ?_
     refine tN 32 opF32 hHeld ?_
     refine tN 33 opF33 hHeld ?_
     refine tN 34 opF34 hHeld ?_
     refine tN 35 opF35 hHeld ?_
     refine tN 36 opF36 hHeld ?_
     refine tY 37 opF37 (.bool true) hHeld ?_
     refine wpAnyH_done (by kernel_rfl) ?_ _
     have HB1 : Hid (Below w0.heap.size w0 wA.drew):=bstep HBA.out (bdrew _)
     go_wp2_with fail
     go_ret
     exact ⟨ret_bool HBad.out.symm,bstep HB0.out HB1.out⟩
    by_cases g2 : (g.ts.length : Int) ≤ y.ow
    ·have HBad : Hid (imB g = false):=HN.out (by unfold fdB numB; simp; omega)
     clear HY HN HZ0 HZk HNk
     refine wp_region_held_drew (S:=(fun W : World => W.cell? ⟨wr.heap.size,0,none⟩ = some (.string y.nm)∧W.cell? ⟨wr.heap.size,1,none⟩ = some (.int .i64 y.ow)∧W.cell? ⟨wr.heap.size,2,none⟩ = some (.int .i64 y.t.1)∧W.cell? ⟨wr.heap.size,3,none⟩ = some (.int .i64 y.t.2.1)∧W.cell? ⟨wr.heap.size,4,none⟩ = some (.int .i64 y.t.2.2.1)∧W.cell? ⟨wr.heap.size,5,none⟩ = some (.bool y.t.2.2.2)∧W.cell? ⟨wr.heap.size,6,none⟩ = some (.bool y.st)∧W.cell? ⟨w.heap.size,0,none⟩ = some (.slice g.ta g.ts.length g.tc)∧W.cell? ⟨w.heap.size,1,none⟩ = some (.slice (some ⟨b,off,none⟩) g.fs.length g.fc)∧W.cell? ⟨w.heap.size,2,none⟩ = some (.slice g.ma g.ms.length g.mc)∧W.cell? ⟨w.heap.size,3,none⟩ = some (.int .i64 g.en))) (by kernel_rfl) (HK.out _ (bdrew _)) (fun hHeld => ?_)
     refine tY 0 opF0 (.pointer (some ⟨wr.heap.size,0,none⟩)) hHeld ?_
     refine tY 1 opF1 (.string y.nm) hHeld ?_
     refine wpAnyH_ready (rs := [2]) (by kernel_rfl) (by simp) ?_
     refine AllReadyH.cons (o:=opF2) rfl (fun K hK => ?_) AllReadyH.nil
     go_simp
     refine (HFn.out _).mono ?_
     rintro e wz ⟨rfl,hz⟩
     subst wz
     have hBc : Below wA.heap.size wA wA.drew:=bdrew wA
     try go_wp2_with fail
     refine hK.out _ _ (HK.out _ hBc) (fun hHeld => ?_)
     clear hK K
     try simp only [Act.put,sA,s0,sS]
     refine tY 3 opF3 (.bool false) hHeld ?_
     refine tY 4 opF4 (.bool false) hHeld ?_
     refine tY 5 opF5 (.pointer (some ⟨wr.heap.size,1,none⟩)) hHeld ?_
     refine tY 6 opF6 (.int .i64 y.ow) hHeld ?_
     refine tY 7 opF7 (.bool false) hHeld ?_
     refine tY 8 opF8 (.bool false) hHeld ?_
     refine tY 9 opF9 (.bool false) hHeld ?_
     refine tY 10 opF10 (.pointer (some ⟨wr.heap.size,1,none⟩)) hHeld ?_
     refine tY 11 opF11 (.int .i64 y.ow) hHeld ?_
     refine tY 12 opF12 (.int .i64 g.ts.length) hHeld ?_
     refine tY 13 opF13 (.bool true) hHeld ?_
     refine tY 14 opF14 (.bool true) hHeld ?_
     refine tY 15 opF15 (.bool true) hHeld ?_
     refine tN 16 opF16 hHeld ?_
     refine tN 17 opF17 hHeld ?_
     refine tN 18 opF18 hHeld ?_
     refine tN 19 opF19 hHeld ?_
     refine tN 20 opF20 hHeld ?_
     refine tN 21 opF21 hHeld ?_
     refine tN 22 opF22 hHeld ?_
     refine tN 23 opF23 hHeld ?_
     refine tN 24 opF24 hHeld ?_
     refine tN 25 opF25 hHeld ?_
     refine tN 26 opF26 hHeld ?_
     refine tN 27 opF27 hHeld ?_
     refine tN 28 opF28 hHeld ?_
     refine tN 29 opF29 hHeld ?_
     refine tY 30 opF30 (.bool true) hHeld ?_
     refine tY 31 opF31 (.bool true) hHeld ?_
     refine tN 32 opF32 hHeld ?_
     refine tN 33 opF33 hHeld ?_
     refine tN 34 opF34 hHeld ?_
     refine tN 35 opF35 hHeld ?_
     refine tN 36 opF36 hHeld ?_
     refine tY 37 opF37 (.bool true) hHeld ?_
     refine wpAnyH_done (by kernel_rfl) ?_ _
     have HB1 : Hid (Below w0.heap.size w0 wA.drew):=bstep HBA.out (bdrew _)
     go_wp2_with fail
     go_ret
     exact ⟨ret_bool HBad.out.symm,bstep HB0.out HB1.out⟩
    have HNu : Hid (numB y.ow g.ts.length = true):=by show _ = _; unfold numB; simp; omega
    by_cases hq0 : q = 0
    ·have i0 : ¬ (0 : Int) < (q : Int):=by omega
     cases hm : mB 1 g.ts.length y.t with
     | false =>
      have HBad : Hid (imB g = false):=HN.out (by show (_ && mB 1 g.ts.length y.t) = false; rw [hm]; simp)
      rw [hm] at HMy
      clear hm HY HN HZ0 HZk HNk
      refine wp_region_held_drew (S:=(fun W : World => W.cell? ⟨wr.heap.size,0,none⟩ = some (.string y.nm)∧W.cell? ⟨wr.heap.size,1,none⟩ = some (.int .i64 y.ow)∧W.cell? ⟨wr.heap.size,2,none⟩ = some (.int .i64 y.t.1)∧W.cell? ⟨wr.heap.size,3,none⟩ = some (.int .i64 y.t.2.1)∧W.cell? ⟨wr.heap.size,4,none⟩ = some (.int .i64 y.t.2.2.1)∧W.cell? ⟨wr.heap.size,5,none⟩ = some (.bool y.t.2.2.2)∧W.cell? ⟨wr.heap.size,6,none⟩ = some (.bool y.st)∧W.cell? ⟨w.heap.size,0,none⟩ = some (.slice g.ta g.ts.length g.tc)∧W.cell? ⟨w.heap.size,1,none⟩ = some (.slice (some ⟨b,off,none⟩) g.fs.length g.fc)∧W.cell? ⟨w.heap.size,2,none⟩ = some (.slice g.ma g.ms.length g.mc)∧W.cell? ⟨w.heap.size,3,none⟩ = some (.int .i64 g.en))) (by kernel_rfl) (HK.out _ (bdrew _)) (fun hHeld => ?_)
      refine tY 0 opF0 (.pointer (some ⟨wr.heap.size,0,none⟩)) hHeld ?_
      refine tY 1 opF1 (.string y.nm) hHeld ?_
      refine wpAnyH_ready (rs := [2]) (by kernel_rfl) (by simp) ?_
      refine AllReadyH.cons (o:=opF2) rfl (fun K hK => ?_) AllReadyH.nil
      go_simp
      refine (HFn.out _).mono ?_
      rintro e wz ⟨rfl,hz⟩
      subst wz
      have hBc : Below wA.heap.size wA wA.drew:=bdrew wA
      try go_wp2_with fail
      refine hK.out _ _ (HK.out _ hBc) (fun hHeld => ?_)
      clear hK K
      try simp only [Act.put,sA,s0,sS]
      refine tY 3 opF3 (.bool false) hHeld ?_
      refine tY 4 opF4 (.bool false) hHeld ?_
      refine tY 5 opF5 (.pointer (some ⟨wr.heap.size,1,none⟩)) hHeld ?_
      refine tY 6 opF6 (.int .i64 y.ow) hHeld ?_
      refine tY 7 opF7 (.bool false) hHeld ?_
      refine tY 8 opF8 (.bool false) hHeld ?_
      refine tY 9 opF9 (.bool false) hHeld ?_
      refine tY 10 opF10 (.pointer (some ⟨wr.heap.size,1,none⟩)) hHeld ?_
      refine tY 11 opF11 (.int .i64 y.ow) hHeld ?_
      refine tY 12 opF12 (.int .i64 g.ts.length) hHeld ?_
      refine tY 13 opF13 (.bool false) hHeld ?_
      refine tY 14 opF14 (.bool false) hHeld ?_
      refine tY 15 opF15 (.bool false) hHeld ?_
      refine tY 16 opF16 (.int .i64 q) hHeld ?_
      refine tY 17 opF17 (.bool false) hHeld ?_
      refine tY 18 opF18 (.bool false) hHeld ?_
      refine tN 19 opF19 hHeld ?_
      refine tN 20 opF20 hHeld ?_
      refine tN 21 opF21 hHeld ?_
      refine tN 22 opF22 hHeld ?_
      refine tN 23 opF23 hHeld ?_
      refine tN 24 opF24 hHeld ?_
      refine tN 25 opF25 hHeld ?_
      refine tN 26 opF26 hHeld ?_
      refine tN 27 opF27 hHeld ?_
      refine tN 28 opF28 hHeld ?_
      refine tY 29 opF29 (.bool false) hHeld ?_
      refine tY 30 opF30 (.bool false) hHeld ?_
      refine tY 31 opF31 (.bool false) hHeld ?_
      refine tY 32 opF32 (.pointer (some ⟨wr.heap.size,2,none⟩)) hHeld ?_
      refine tY 33 opF33 (.agg #[.int .i64 y.t.1,.int .i64 y.t.2.1,.int .i64 y.t.2.2.1,.bool y.t.2.2.2]) hHeld ?_
      refine tY 34 opF34 (.int .i64 g.ts.length) hHeld ?_
      refine wpAnyH_ready (rs := [35]) (by kernel_rfl) (by simp) ?_
      refine AllReadyH.cons (o:=opF35) rfl (fun K hK => ?_) AllReadyH.nil
      go_simp
      refine (HMy.out _).mono ?_
      rintro e w1 ⟨rfl,hb1⟩
      replace hBc : Below wA.heap.size wA w1:=bstep hBc hb1
      try go_wp2_with fail
      refine hK.out _ _ (HK.out _ hBc) (fun hHeld => ?_)
      clear hK K
      try simp only [Act.put,sA,s0,sS]
      refine tY 36 opF36 (.bool true) hHeld ?_
      refine tY 37 opF37 (.bool true) hHeld ?_
      refine wpAnyH_done (by kernel_rfl) ?_ _
      have HB1 : Hid (Below w0.heap.size w0 w1):=bstep HBA.out hBc
      clear hBc hb1
      go_wp2_with fail
      go_ret
      exact ⟨ret_bool HBad.out.symm,bstep HB0.out HB1.out⟩
     | true =>
      have HY2 : Hid _:=HY.out (by show (_ && _ && mB 1 g.ts.length y.t) = true; rw [HFi.out,HNu.out,hm]; rfl)
      have HZ2 : Hid _:=HZ0.out hq0
      rw [hm] at HMy
      clear hm HY HN HZ0 HZk HNk
      refine wp_region_held_drew (S:=(fun W : World => W.cell? ⟨wr.heap.size,0,none⟩ = some (.string y.nm)∧W.cell? ⟨wr.heap.size,1,none⟩ = some (.int .i64 y.ow)∧W.cell? ⟨wr.heap.size,2,none⟩ = some (.int .i64 y.t.1)∧W.cell? ⟨wr.heap.size,3,none⟩ = some (.int .i64 y.t.2.1)∧W.cell? ⟨wr.heap.size,4,none⟩ = some (.int .i64 y.t.2.2.1)∧W.cell? ⟨wr.heap.size,5,none⟩ = some (.bool y.t.2.2.2)∧W.cell? ⟨wr.heap.size,6,none⟩ = some (.bool y.st)∧W.cell? ⟨w.heap.size,0,none⟩ = some (.slice g.ta g.ts.length g.tc)∧W.cell? ⟨w.heap.size,1,none⟩ = some (.slice (some ⟨b,off,none⟩) g.fs.length g.fc)∧W.cell? ⟨w.heap.size,2,none⟩ = some (.slice g.ma g.ms.length g.mc)∧W.cell? ⟨w.heap.size,3,none⟩ = some (.int .i64 g.en))) (by kernel_rfl) (HK.out _ (bdrew _)) (fun hHeld => ?_)
      refine tY 0 opF0 (.pointer (some ⟨wr.heap.size,0,none⟩)) hHeld ?_
      refine tY 1 opF1 (.string y.nm) hHeld ?_
      refine wpAnyH_ready (rs := [2]) (by kernel_rfl) (by simp) ?_
      refine AllReadyH.cons (o:=opF2) rfl (fun K hK => ?_) AllReadyH.nil
      go_simp
      refine (HFn.out _).mono ?_
      rintro e wz ⟨rfl,hz⟩
      subst wz
      have hBc : Below wA.heap.size wA wA.drew:=bdrew wA
      try go_wp2_with fail
      refine hK.out _ _ (HK.out _ hBc) (fun hHeld => ?_)
      clear hK K
      try simp only [Act.put,sA,s0,sS]
      refine tY 3 opF3 (.bool false) hHeld ?_
      refine tY 4 opF4 (.bool false) hHeld ?_
      refine tY 5 opF5 (.pointer (some ⟨wr.heap.size,1,none⟩)) hHeld ?_
      refine tY 6 opF6 (.int .i64 y.ow) hHeld ?_
      refine tY 7 opF7 (.bool false) hHeld ?_
      refine tY 8 opF8 (.bool false) hHeld ?_
      refine tY 9 opF9 (.bool false) hHeld ?_
      refine tY 10 opF10 (.pointer (some ⟨wr.heap.size,1,none⟩)) hHeld ?_
      refine tY 11 opF11 (.int .i64 y.ow) hHeld ?_
      refine tY 12 opF12 (.int .i64 g.ts.length) hHeld ?_
      refine tY 13 opF13 (.bool false) hHeld ?_
      refine tY 14 opF14 (.bool false) hHeld ?_
      refine tY 15 opF15 (.bool false) hHeld ?_
      refine tY 16 opF16 (.int .i64 q) hHeld ?_
      refine tY 17 opF17 (.bool false) hHeld ?_
      refine tY 18 opF18 (.bool false) hHeld ?_
      refine tN 19 opF19 hHeld ?_
      refine tN 20 opF20 hHeld ?_
      refine tN 21 opF21 hHeld ?_
      refine tN 22 opF22 hHeld ?_
      refine tN 23 opF23 hHeld ?_
      refine tN 24 opF24 hHeld ?_
      refine tN 25 opF25 hHeld ?_
      refine tN 26 opF26 hHeld ?_
      refine tN 27 opF27 hHeld ?_
      refine tN 28 opF28 hHeld ?_
      refine tY 29 opF29 (.bool false) hHeld ?_
      refine tY 30 opF30 (.bool false) hHeld ?_
      refine tY 31 opF31 (.bool false) hHeld ?_
      refine tY 32 opF32 (.pointer (some ⟨wr.heap.size,2,none⟩)) hHeld ?_
      refine tY 33 opF33 (.agg #[.int .i64 y.t.1,.int .i64 y.t.2.1,.int .i64 y.t.2.2.1,.bool y.t.2.2.2]) hHeld ?_
      refine tY 34 opF34 (.int .i64 g.ts.length) hHeld ?_
      refine wpAnyH_ready (rs := [35]) (by kernel_rfl) (by simp) ?_
      refine AllReadyH.cons (o:=opF35) rfl (fun K hK => ?_) AllReadyH.nil
      go_simp
      refine (HMy.out _).mono ?_
      rintro e w1 ⟨rfl,hb1⟩
      replace hBc : Below wA.heap.size wA w1:=bstep hBc hb1
      try go_wp2_with fail
      refine hK.out _ _ (HK.out _ hBc) (fun hHeld => ?_)
      clear hK K
      try simp only [Act.put,sA,s0,sS]
      refine tY 36 opF36 (.bool false) hHeld ?_
      refine tY 37 opF37 (.bool false) hHeld ?_
      refine wpAnyH_done (by kernel_rfl) ?_ _
      have HB1 : Hid (Below w0.heap.size w0 w1):=bstep HBA.out hBc
      clear hBc hb1
      go_wp2_with fail
      go_roundw
      case rel => exact ⟨q + 1,by omega,by go_num,HB1.out,HY2.out,HZ2.out⟩
      case measure => simp [intOf]; omega
    obtain ⟨k,hk⟩ : ∃ k,q = k + 1:=⟨q - 1,by omega⟩
    have i0 : (0 : Int) < (q : Int):=by omega
    have i0n : 0 < q:=by omega
    have i2 : k < g.fs.length:=by omega
    have i3 : (k : Int) < (g.fs.length : Int):=by omega
    have e2 : IntKind.i64.wrap ((q : Int) - 1) = (k : Int):=by rw [IntKind.wrap_i64]; omega
    have HZr : Hid (g.fs[k].ow ≤ y.ow → UpTo (g.fs.map (·.ow)) (q + 1)):=HZk.out k i2 hk
    have HNr : Hid (y.ow < g.fs[k].ow → imB g = false):=HNk.out k i2 hk
    have HPz : Hid (∀ W,Below wA.heap.size wA W → W.cell? ⟨b,off + k * 7 + 1,none⟩ = some (.int .i64 g.fs[k].ow)):=fun W hW => ((show El fdE wr b (off + k * 7) g.fs[k] from HCs.out k i2).below (bstep HBw.out hW) hb).cells_F.2.1
    generalize g.fs[k] = z at *
    have HK2 : Hid (∀ W,Below wA.heap.size wA W → W.cell? ⟨b,off + k * 7 + 1,none⟩ = some (.int .i64 z.ow)∧W.cell? ⟨wr.heap.size,0,none⟩ = some (.string y.nm)∧W.cell? ⟨wr.heap.size,1,none⟩ = some (.int .i64 y.ow)∧W.cell? ⟨wr.heap.size,2,none⟩ = some (.int .i64 y.t.1)∧W.cell? ⟨wr.heap.size,3,none⟩ = some (.int .i64 y.t.2.1)∧W.cell? ⟨wr.heap.size,4,none⟩ = some (.int .i64 y.t.2.2.1)∧W.cell? ⟨wr.heap.size,5,none⟩ = some (.bool y.t.2.2.2)∧W.cell? ⟨wr.heap.size,6,none⟩ = some (.bool y.st)∧W.cell? ⟨w.heap.size,0,none⟩ = some (.slice g.ta g.ts.length g.tc)∧W.cell? ⟨w.heap.size,1,none⟩ = some (.slice (some ⟨b,off,none⟩) g.fs.length g.fc)∧W.cell? ⟨w.heap.size,2,none⟩ = some (.slice g.ma g.ms.length g.mc)∧W.cell? ⟨w.heap.size,3,none⟩ = some (.int .i64 g.en)):=fun W hW => ⟨HPz.out W hW,HK.out W hW⟩
    have HQk : Hid (q = k + 1):=hk
    clear hk
    by_cases g3 : y.ow < z.ow
    ·have HBad : Hid (imB g = false):=HNr.out g3
     clear HY HN HZ0 HZk HNk
     refine wp_region_held_drew (S:=(fun W : World => W.cell? ⟨b,off + k * 7 + 1,none⟩ = some (.int .i64 z.ow)∧W.cell? ⟨wr.heap.size,0,none⟩ = some (.string y.nm)∧W.cell? ⟨wr.heap.size,1,none⟩ = some (.int .i64 y.ow)∧W.cell? ⟨wr.heap.size,2,none⟩ = some (.int .i64 y.t.1)∧W.cell? ⟨wr.heap.size,3,none⟩ = some (.int .i64 y.t.2.1)∧W.cell? ⟨wr.heap.size,4,none⟩ = some (.int .i64 y.t.2.2.1)∧W.cell? ⟨wr.heap.size,5,none⟩ = some (.bool y.t.2.2.2)∧W.cell? ⟨wr.heap.size,6,none⟩ = some (.bool y.st)∧W.cell? ⟨w.heap.size,0,none⟩ = some (.slice g.ta g.ts.length g.tc)∧W.cell? ⟨w.heap.size,1,none⟩ = some (.slice (some ⟨b,off,none⟩) g.fs.length g.fc)∧W.cell? ⟨w.heap.size,2,none⟩ = some (.slice g.ma g.ms.length g.mc)∧W.cell? ⟨w.heap.size,3,none⟩ = some (.int .i64 g.en))) (by kernel_rfl) (HK2.out _ (bdrew _)) (fun hHeld => ?_)
     refine tY 0 opF0 (.pointer (some ⟨wr.heap.size,0,none⟩)) hHeld ?_
     refine tY 1 opF1 (.string y.nm) hHeld ?_
     refine wpAnyH_ready (rs := [2]) (by kernel_rfl) (by simp) ?_
     refine AllReadyH.cons (o:=opF2) rfl (fun K hK => ?_) AllReadyH.nil
     go_simp
     refine (HFn.out _).mono ?_
     rintro e wz ⟨rfl,hz⟩
     subst wz
     have hBc : Below wA.heap.size wA wA.drew:=bdrew wA
     try go_wp2_with fail
     refine hK.out _ _ (HK2.out _ hBc) (fun hHeld => ?_)
     clear hK K
     try simp only [Act.put,sA,s0,sS]
     refine tY 3 opF3 (.bool false) hHeld ?_
     refine tY 4 opF4 (.bool false) hHeld ?_
     refine tY 5 opF5 (.pointer (some ⟨wr.heap.size,1,none⟩)) hHeld ?_
     refine tY 6 opF6 (.int .i64 y.ow) hHeld ?_
     refine tY 7 opF7 (.bool false) hHeld ?_
     refine tY 8 opF8 (.bool false) hHeld ?_
     refine tY 9 opF9 (.bool false) hHeld ?_
     refine tY 10 opF10 (.pointer (some ⟨wr.heap.size,1,none⟩)) hHeld ?_
     refine tY 11 opF11 (.int .i64 y.ow) hHeld ?_
     refine tY 12 opF12 (.int .i64 g.ts.length) hHeld ?_
     refine tY 13 opF13 (.bool false) hHeld ?_
     refine tY 14 opF14 (.bool false) hHeld ?_
     refine tY 15 opF15 (.bool false) hHeld ?_
     refine tY 16 opF16 (.int .i64 q) hHeld ?_
     refine tY 17 opF17 (.bool true) hHeld ?_
     refine tY 18 opF18 (.bool true) hHeld ?_
     refine tY 19 opF19 (.pointer (some ⟨wr.heap.size,1,none⟩)) hHeld ?_
     refine tY 20 opF20 (.int .i64 y.ow) hHeld ?_
     refine tY 21 opF21 (.pointer (some ⟨w.heap.size,1,none⟩)) hHeld ?_
     refine tY 22 opF22 (.slice (some ⟨b,off,none⟩) g.fs.length g.fc) hHeld ?_
     refine tY 23 opF23 (.int .i64 q) hHeld ?_
     refine tY 24 opF24 (.int .i64 k) hHeld ?_
     refine tY 25 opF25 (.pointer (some ⟨b,off + k * 7,none⟩)) hHeld ?_
     refine tY 26 opF26 (.pointer (some ⟨b,off + k * 7 + 1,none⟩)) hHeld ?_
     refine tY 27 opF27 (.int .i64 z.ow) hHeld ?_
     refine tY 28 opF28 (.bool true) hHeld ?_
     refine tY 29 opF29 (.bool true) hHeld ?_
     refine tY 30 opF30 (.bool true) hHeld ?_
     refine tY 31 opF31 (.bool true) hHeld ?_
     refine tN 32 opF32 hHeld ?_
     refine tN 33 opF33 hHeld ?_
     refine tN 34 opF34 hHeld ?_
     refine tN 35 opF35 hHeld ?_
     refine tN 36 opF36 hHeld ?_
     refine tY 37 opF37 (.bool true) hHeld ?_
     refine wpAnyH_done (by kernel_rfl) ?_ _
     have HB1 : Hid (Below w0.heap.size w0 wA.drew):=bstep HBA.out (bdrew _)
     go_wp2_with fail
     go_ret
     exact ⟨ret_bool HBad.out.symm,bstep HB0.out HB1.out⟩
    have HLe : Hid (z.ow ≤ y.ow):=by show _ ≤ _; omega
    cases hm : mB 1 g.ts.length y.t with
    | false =>
     have HBad : Hid (imB g = false):=HN.out (by show (_ && mB 1 g.ts.length y.t) = false; rw [hm]; simp)
     rw [hm] at HMy
     clear hm HY HN HZ0 HZk HNk
     refine wp_region_held_drew (S:=(fun W : World => W.cell? ⟨b,off + k * 7 + 1,none⟩ = some (.int .i64 z.ow)∧W.cell? ⟨wr.heap.size,0,none⟩ = some (.string y.nm)∧W.cell? ⟨wr.heap.size,1,none⟩ = some (.int .i64 y.ow)∧W.cell? ⟨wr.heap.size,2,none⟩ = some (.int .i64 y.t.1)∧W.cell? ⟨wr.heap.size,3,none⟩ = some (.int .i64 y.t.2.1)∧W.cell? ⟨wr.heap.size,4,none⟩ = some (.int .i64 y.t.2.2.1)∧W.cell? ⟨wr.heap.size,5,none⟩ = some (.bool y.t.2.2.2)∧W.cell? ⟨wr.heap.size,6,none⟩ = some (.bool y.st)∧W.cell? ⟨w.heap.size,0,none⟩ = some (.slice g.ta g.ts.length g.tc)∧W.cell? ⟨w.heap.size,1,none⟩ = some (.slice (some ⟨b,off,none⟩) g.fs.length g.fc)∧W.cell? ⟨w.heap.size,2,none⟩ = some (.slice g.ma g.ms.length g.mc)∧W.cell? ⟨w.heap.size,3,none⟩ = some (.int .i64 g.en))) (by kernel_rfl) (HK2.out _ (bdrew _)) (fun hHeld => ?_)
     refine tY 0 opF0 (.pointer (some ⟨wr.heap.size,0,none⟩)) hHeld ?_
     refine tY 1 opF1 (.string y.nm) hHeld ?_
     refine wpAnyH_ready (rs := [2]) (by kernel_rfl) (by simp) ?_
     refine AllReadyH.cons (o:=opF2) rfl (fun K hK => ?_) AllReadyH.nil
     go_simp
     refine (HFn.out _).mono ?_
     rintro e wz ⟨rfl,hz⟩
     subst wz
     have hBc : Below wA.heap.size wA wA.drew:=bdrew wA
     try go_wp2_with fail
     refine hK.out _ _ (HK2.out _ hBc) (fun hHeld => ?_)
     clear hK K
     try simp only [Act.put,sA,s0,sS]
     refine tY 3 opF3 (.bool false) hHeld ?_
     refine tY 4 opF4 (.bool false) hHeld ?_
     refine tY 5 opF5 (.pointer (some ⟨wr.heap.size,1,none⟩)) hHeld ?_
     refine tY 6 opF6 (.int .i64 y.ow) hHeld ?_
     refine tY 7 opF7 (.bool false) hHeld ?_
     refine tY 8 opF8 (.bool false) hHeld ?_
     refine tY 9 opF9 (.bool false) hHeld ?_
     refine tY 10 opF10 (.pointer (some ⟨wr.heap.size,1,none⟩)) hHeld ?_
     refine tY 11 opF11 (.int .i64 y.ow) hHeld ?_
     refine tY 12 opF12 (.int .i64 g.ts.length) hHeld ?_
     refine tY 13 opF13 (.bool false) hHeld ?_
     refine tY 14 opF14 (.bool false) hHeld ?_
     refine tY 15 opF15 (.bool false) hHeld ?_
     refine tY 16 opF16 (.int .i64 q) hHeld ?_
     refine tY 17 opF17 (.bool true) hHeld ?_
     refine tY 18 opF18 (.bool true) hHeld ?_
     refine tY 19 opF19 (.pointer (some ⟨wr.heap.size,1,none⟩)) hHeld ?_
     refine tY 20 opF20 (.int .i64 y.ow) hHeld ?_
     refine tY 21 opF21 (.pointer (some ⟨w.heap.size,1,none⟩)) hHeld ?_
     refine tY 22 opF22 (.slice (some ⟨b,off,none⟩) g.fs.length g.fc) hHeld ?_
     refine tY 23 opF23 (.int .i64 q) hHeld ?_
     refine tY 24 opF24 (.int .i64 k) hHeld ?_
     refine tY 25 opF25 (.pointer (some ⟨b,off + k * 7,none⟩)) hHeld ?_
     refine tY 26 opF26 (.pointer (some ⟨b,off + k * 7 + 1,none⟩)) hHeld ?_
     refine tY 27 opF27 (.int .i64 z.ow) hHeld ?_
     refine tY 28 opF28 (.bool false) hHeld ?_
     refine tY 29 opF29 (.bool false) hHeld ?_
     refine tY 30 opF30 (.bool false) hHeld ?_
     refine tY 31 opF31 (.bool false) hHeld ?_
     refine tY 32 opF32 (.pointer (some ⟨wr.heap.size,2,none⟩)) hHeld ?_
     refine tY 33 opF33 (.agg #[.int .i64 y.t.1,.int .i64 y.t.2.1,.int .i64 y.t.2.2.1,.bool y.t.2.2.2]) hHeld ?_
     refine tY 34 opF34 (.int .i64 g.ts.length) hHeld ?_
     refine wpAnyH_ready (rs := [35]) (by kernel_rfl) (by simp) ?_
     refine AllReadyH.cons (o:=opF35) rfl (fun K hK => ?_) AllReadyH.nil
     go_simp
     refine (HMy.out _).mono ?_
     rintro e w1 ⟨rfl,hb1⟩
     replace hBc : Below wA.heap.size wA w1:=bstep hBc hb1
     try go_wp2_with fail
     refine hK.out _ _ (HK2.out _ hBc) (fun hHeld => ?_)
     clear hK K
     try simp only [Act.put,sA,s0,sS]
     refine tY 36 opF36 (.bool true) hHeld ?_
     refine tY 37 opF37 (.bool true) hHeld ?_
     refine wpAnyH_done (by kernel_rfl) ?_ _
     have HB1 : Hid (Below w0.heap.size w0 w1):=bstep HBA.out hBc
     clear hBc hb1
     go_wp2_with fail
     go_ret
     exact ⟨ret_bool HBad.out.symm,bstep HB0.out HB1.out⟩
    | true =>
     have HY2 : Hid _:=HY.out (by show (_ && _ && mB 1 g.ts.length y.t) = true; rw [HFi.out,HNu.out,hm]; rfl)
     have HZ2 : Hid _:=HZr.out HLe.out
     rw [hm] at HMy
     clear hm HY HN HZ0 HZk HNk
     refine wp_region_held_drew (S:=(fun W : World => W.cell? ⟨b,off + k * 7 + 1,none⟩ = some (.int .i64 z.ow)∧W.cell? ⟨wr.heap.size,0,none⟩ = some (.string y.nm)∧W.cell? ⟨wr.heap.size,1,none⟩ = some (.int .i64 y.ow)∧W.cell? ⟨wr.heap.size,2,none⟩ = some (.int .i64 y.t.1)∧W.cell? ⟨wr.heap.size,3,none⟩ = some (.int .i64 y.t.2.1)∧W.cell? ⟨wr.heap.size,4,none⟩ = some (.int .i64 y.t.2.2.1)∧W.cell? ⟨wr.heap.size,5,none⟩ = some (.bool y.t.2.2.2)∧W.cell? ⟨wr.heap.size,6,none⟩ = some (.bool y.st)∧W.cell? ⟨w.heap.size,0,none⟩ = some (.slice g.ta g.ts.length g.tc)∧W.cell? ⟨w.heap.size,1,none⟩ = some (.slice (some ⟨b,off,none⟩) g.fs.length g.fc)∧W.cell? ⟨w.heap.size,2,none⟩ = some (.slice g.ma g.ms.length g.mc)∧W.cell? ⟨w.heap.size,3,none⟩ = some (.int .i64 g.en))) (by kernel_rfl) (HK2.out _ (bdrew _)) (fun hHeld => ?_)
     refine tY 0 opF0 (.pointer (some ⟨wr.heap.size,0,none⟩)) hHeld ?_
     refine tY 1 opF1 (.string y.nm) hHeld ?_
     refine wpAnyH_ready (rs := [2]) (by kernel_rfl) (by simp) ?_
     refine AllReadyH.cons (o:=opF2) rfl (fun K hK => ?_) AllReadyH.nil
     go_simp
     refine (HFn.out _).mono ?_
     rintro e wz ⟨rfl,hz⟩
     subst wz
     have hBc : Below wA.heap.size wA wA.drew:=bdrew wA
     try go_wp2_with fail
     refine hK.out _ _ (HK2.out _ hBc) (fun hHeld => ?_)
     clear hK K
     try simp only [Act.put,sA,s0,sS]
     refine tY 3 opF3 (.bool false) hHeld ?_
     refine tY 4 opF4 (.bool false) hHeld ?_
     refine tY 5 opF5 (.pointer (some ⟨wr.heap.size,1,none⟩)) hHeld ?_
     refine tY 6 opF6 (.int .i64 y.ow) hHeld ?_
     refine tY 7 opF7 (.bool false) hHeld ?_
     refine tY 8 opF8 (.bool false) hHeld ?_
     refine tY 9 opF9 (.bool false) hHeld ?_
     refine tY 10 opF10 (.pointer (some ⟨wr.heap.size,1,none⟩)) hHeld ?_
     refine tY 11 opF11 (.int .i64 y.ow) hHeld ?_
     refine tY 12 opF12 (.int .i64 g.ts.length) hHeld ?_
     refine tY 13 opF13 (.bool false) hHeld ?_
     refine tY 14 opF14 (.bool false) hHeld ?_
     refine tY 15 opF15 (.bool false) hHeld ?_
     refine tY 16 opF16 (.int .i64 q) hHeld ?_
     refine tY 17 opF17 (.bool true) hHeld ?_
     refine tY 18 opF18 (.bool true) hHeld ?_
     refine tY 19 opF19 (.pointer (some ⟨wr.heap.size,1,none⟩)) hHeld ?_
     refine tY 20 opF20 (.int .i64 y.ow) hHeld ?_
     refine tY 21 opF21 (.pointer (some ⟨w.heap.size,1,none⟩)) hHeld ?_
     refine tY 22 opF22 (.slice (some ⟨b,off,none⟩) g.fs.length g.fc) hHeld ?_
     refine tY 23 opF23 (.int .i64 q) hHeld ?_
     refine tY 24 opF24 (.int .i64 k) hHeld ?_
     refine tY 25 opF25 (.pointer (some ⟨b,off + k * 7,none⟩)) hHeld ?_
     refine tY 26 opF26 (.pointer (some ⟨b,off + k * 7 + 1,none⟩)) hHeld ?_
     refine tY 27 opF27 (.int .i64 z.ow) hHeld ?_
     refine tY 28 opF28 (.bool false) hHeld ?_
     refine tY 29 opF29 (.bool false) hHeld ?_
     refine tY 30 opF30 (.bool false) hHeld ?_
     refine tY 31 opF31 (.bool false) hHeld ?_
     refine tY 32 opF32 (.pointer (some ⟨wr.heap.size,2,none⟩)) hHeld ?_
     refine tY 33 opF33 (.agg #[.int .i64 y.t.1,.int .i64 y.t.2.1,.int .i64 y.t.2.2.1,.bool y.t.2.2.2]) hHeld ?_
     refine tY 34 opF34 (.int .i64 g.ts.length) hHeld ?_
     refine wpAnyH_ready (rs := [35]) (by kernel_rfl) (by simp) ?_
     refine AllReadyH.cons (o:=opF35) rfl (fun K hK => ?_) AllReadyH.nil
     go_simp
     refine (HMy.out _).mono ?_
     rintro e w1 ⟨rfl,hb1⟩
     replace hBc : Below wA.heap.size wA w1:=bstep hBc hb1
     try go_wp2_with fail
     refine hK.out _ _ (HK2.out _ hBc) (fun hHeld => ?_)
     clear hK K
     try simp only [Act.put,sA,s0,sS]
     refine tY 36 opF36 (.bool false) hHeld ?_
     refine tY 37 opF37 (.bool false) hHeld ?_
     refine wpAnyH_done (by kernel_rfl) ?_ _
     have HB1 : Hid (Below w0.heap.size w0 w1):=bstep HBA.out hBc
     clear hBc hb1
     go_wp2_with fail
     go_roundw
     case rel => exact ⟨q + 1,by omega,by go_num,HB1.out,HY2.out,HZ2.out⟩
     case measure => simp [intOf]; omega
   have HT2 : Hid (g.fs.all (fdB g.ts.length) = true):=all_done hql HA.out
   have HT3 : Hid (risB (g.fs.map (·.ow)) = true):=upTo_all HZ.out (by simp; omega)
   have c1:=(HAT.out wr hB).cell
   unfold imA at c1
   clear HA hB HZ HNm
   go_wp2_with fail
   clear c1
   have HNm:=HN3
   have HOk:=HMok
   go_loopw [7] (fun z wr2 => ∃ q : Nat,q ≤ g.ms.length∧z = .int .i64 q∧Below w0.heap.size w0 wr2∧Hid ((g.ms.take q).all (mdB g.ts.length g.fs.length g.ms.length) = true)∧Hid (UpTo (g.ms.map (·.ow)) q)) (fun z _ => g.ms.length - (intOf z).toNat)
   case atStart => exact ⟨0,Nat.zero_le _,rfl,HBr.out,by show _ = _; simp,fun j hj h => by omega⟩
   case round =>
    obtain ⟨q,hq,rfl,hB,HA,HZ⟩:=hrel
    have HBr : Hid (Below w0.heap.size w0 wr):=hB
    by_cases hql : q < g.ms.length
    ·have HOR : Hid (∀ W,Below w0.heap.size w0 W → Es mdE W (.slice g.ma g.ms.length g.mc) g.ms):=HXm
     obtain ⟨b,off,hfa,hb,h6,h7,hc⟩:=(HOR.out wr hB).at hql
     have HCs : Hid (∀ i (hi : i < g.ms.length),El mdE wr b (off + i * 12) g.ms[i]):=hc
     have HIm : Hid (∀ W,Below w0.heap.size w0 W → At W w.heap.size #[.slice g.ta g.ts.length g.tc,.slice g.fa g.fs.length g.fc,.slice (some ⟨b,off,none⟩) g.ms.length g.mc,.int .i64 g.en] 26):=fun W hW => by
      have:=HAT.out W hW
      unfold imA at this
      rw [hfa] at this
      exact this
     have HMem : Hid (g.ms[q] ∈ g.ms):=List.getElem_mem hql
     have HY : Hid (mdB g.ts.length g.fs.length g.ms.length g.ms[q] = true → (g.ms.take (q + 1)).all (mdB g.ts.length g.fs.length g.ms.length) = true):=fun h => all_step hql HA.out h
     have HN : Hid (mdB g.ts.length g.fs.length g.ms.length g.ms[q] = false → imB g = false):=fun h => HBm.out (all_no hql h)
     have HZ0 : Hid (q = 0 → UpTo (g.ms.map (·.ow)) (q + 1)):=fun h => upTo_zero h
     have HZk : Hid (∀ k (h : k < g.ms.length),q = k + 1 → g.ms[k].ow ≤ g.ms[q].ow → UpTo (g.ms.map (·.ow)) (q + 1)):=fun k h hk hle => upTo_step hk HZ.out (by simpa using hql) (by subst hk; simpa using hle)
     have HNk : Hid (∀ k (h : k < g.ms.length),q = k + 1 → g.ms[q].ow < g.ms[k].ow → imB g = false):=fun k h hk hlt => HBm2.out (ris_no (k:=k) (by subst hk; simpa using hql) (by subst hk; simpa using hlt))
     have hcq:=(show El mdE wr b (off + q * 12) g.ms[q] from HCs.out q hql).cells_M
     generalize g.ms[q] = y at *
     obtain ⟨k0,k1,k2,k3,k4,k5,k6,k7,k8,k9,k10,k11⟩:=hcq
     have d1:=(HIm.out wr hB).cell
     unfold maxLen at h7
     obtain ⟨wA,hwA⟩ : ∃ W,W = wr.alloc (.cells (mdA y) 47):=⟨_,rfl⟩
     have HWA : Hid (wA = _):=hwA
     have hbA : Below wr.heap.size wr wA:=by rw [hwA]; exact made_below _ _ _
     have HBw : Hid (Below wr.heap.size wr wA):=hbA
     have HBA : Hid (Below w0.heap.size w0 wA):=bstep hB hbA
     have hAA : At wA wr.heap.size (mdA y) 47:=by rw [hwA]; exact At.made _ _ _
     have HK : Hid (∀ W,Below wA.heap.size wA W → W.cell? ⟨wr.heap.size,0,none⟩ = some (.string y.nm)∧W.cell? ⟨wr.heap.size,1,none⟩ = some (.int .i64 y.ow)∧W.cell? ⟨wr.heap.size,2,none⟩ = some (.int .i64 y.fl)∧W.cell? ⟨wr.heap.size,3,none⟩ = some (.slice y.pa y.ps.length y.pc)∧W.cell? ⟨wr.heap.size,4,none⟩ = some (.int .i64 y.rt.1)∧W.cell? ⟨wr.heap.size,5,none⟩ = some (.int .i64 y.rt.2.1)∧W.cell? ⟨wr.heap.size,6,none⟩ = some (.int .i64 y.rt.2.2.1)∧W.cell? ⟨wr.heap.size,7,none⟩ = some (.bool y.rt.2.2.2)∧W.cell? ⟨wr.heap.size,8,none⟩ = some (.slice y.la y.ls.length y.lc)∧W.cell? ⟨wr.heap.size,9,none⟩ = some (.int .i64 y.mx)∧W.cell? ⟨wr.heap.size,10,none⟩ = some (.slice y.ca y.co.length y.cc)∧W.cell? ⟨wr.heap.size,11,none⟩ = some (.slice y.ka y.cl.length y.kc)∧W.cell? ⟨w.heap.size,0,none⟩ = some (.slice g.ta g.ts.length g.tc)∧W.cell? ⟨w.heap.size,1,none⟩ = some (.slice g.fa g.fs.length g.fc)∧W.cell? ⟨w.heap.size,2,none⟩ = some (.slice (some ⟨b,off,none⟩) g.ms.length g.mc)∧W.cell? ⟨w.heap.size,3,none⟩ = some (.int .i64 g.en)):=fun W hW => by
      have hx:=hAA.later hW
      have hi:=HIm.out W (bstep HBA.out hW)
      exact ⟨hx.cell 0,hx.cell 1,hx.cell 2,hx.cell 3,hx.cell 4,hx.cell 5,hx.cell 6,hx.cell 7,hx.cell 8,hx.cell 9,hx.cell 10,hx.cell 11,hi.cell 0,hi.cell 1,hi.cell 2,hi.cell 3⟩
     have HMy : Hid (∀ W,Below wA.heap.size wA W → Calls Tryd.prog 34 #[.agg (mdA y),.agg (imA g)] W fun e w' => e = .returned (.bool (rmB g.ts.length g.fs.length g.ms.length y))∧Below W.heap.size W w'):=fun W hW => refFormedMethod_any g y (HOk.out W (bstep HBA.out hW) y HMem.out) (HNm.out y HMem.out) (by unfold maxLen; omega) (by unfold maxLen; omega) (by unfold maxLen; omega)
     unfold mdA imA at HMy
     rw [hfa] at HMy
     unfold mdA at HWA
     clear hfa hwA hbA hAA hc hB HOR HA HZ
     go_wp2_with (rw [← HWA.out])
     clear k0 k1 k2 k3 k4 k5 k6 k7 k8 k9 k10 k11 d1
     by_cases g1 : y.ow < 0
     ·have HBad : Hid (imB g = false):=HN.out (by rw [rm_eq]; unfold numB; simp; omega)
      clear HY HN HZ0 HZk HNk
      refine wp_region_held_drew (S:=(fun W : World => W.cell? ⟨wr.heap.size,0,none⟩ = some (.string y.nm)∧W.cell? ⟨wr.heap.size,1,none⟩ = some (.int .i64 y.ow)∧W.cell? ⟨wr.heap.size,2,none⟩ = some (.int .i64 y.fl)∧W.cell? ⟨wr.heap.size,3,none⟩ = some (.slice y.pa y.ps.length y.pc)∧W.cell? ⟨wr.heap.size,4,none⟩ = some (.int .i64 y.rt.1)∧W.cell? ⟨wr.heap.size,5,none⟩ = some (.int .i64 y.rt.2.1)∧W.cell? ⟨wr.heap.size,6,none⟩ = some (.int .i64 y.rt.2.2.1)∧W.cell? ⟨wr.heap.size,7,none⟩ = some (.bool y.rt.2.2.2)∧W.cell? ⟨wr.heap.size,8,none⟩ = some (.slice y.la y.ls.length y.lc)∧W.cell? ⟨wr.heap.size,9,none⟩ = some (.int .i64 y.mx)∧W.cell? ⟨wr.heap.size,10,none⟩ = some (.slice y.ca y.co.length y.cc)∧W.cell? ⟨wr.heap.size,11,none⟩ = some (.slice y.ka y.cl.length y.kc)∧W.cell? ⟨w.heap.size,0,none⟩ = some (.slice g.ta g.ts.length g.tc)∧W.cell? ⟨w.heap.size,1,none⟩ = some (.slice g.fa g.fs.length g.fc)∧W.cell? ⟨w.heap.size,2,none⟩ = some (.slice (some ⟨b,off,none⟩) g.ms.length g.mc)∧W.cell? ⟨w.heap.size,3,none⟩ = some (.int .i64 g.en))) (by kernel_rfl) (HK.out _ (bdrew _)) (fun hHeld => ?_)
      refine tY 0 opM0 (.pointer (some ⟨wr.heap.size,1,none⟩)) hHeld ?_
      refine tY 1 opM1 (.int .i64 y.ow) hHeld ?_
      refine tY 2 opM2 (.bool true) hHeld ?_
      refine tY 3 opM3 (.bool true) hHeld ?_
      refine tN 4 opM4 hHeld ?_
      refine tN 5 opM5 hHeld ?_
      refine tN 6 opM6 hHeld ?_
      refine tN 7 opM7 hHeld ?_
      refine tY 8 opM8 (.bool true) hHeld ?_
      refine tY 9 opM9 (.bool true) hHeld ?_
      refine tN 10 opM10 hHeld ?_
      refine tN 11 opM11 hHeld ?_
      refine tN 12 opM12 hHeld ?_
      refine tN 13 opM13 hHeld ?_
      refine tN 14 opM14 hHeld ?_
      refine tN 15 opM15 hHeld ?_
      refine tN 16 opM16 hHeld ?_
      refine tN 17 opM17 hHeld ?_
      refine tN 18 opM18 hHeld ?_
      refine tN 19 opM19 hHeld ?_
      refine tN 20 opM20 hHeld ?_
      refine tN 21 opM21 hHeld ?_
      refine tN 22 opM22 hHeld ?_
      refine tN 23 opM23 hHeld ?_
      refine tY 24 opM24 (.bool true) hHeld ?_
      refine tY 25 opM25 (.bool true) hHeld ?_
      refine tN 26 opM26 hHeld ?_
      refine tN 27 opM27 hHeld ?_
      refine tN 28 opM28 hHeld ?_
      refine tN 29 opM29 hHeld ?_
      refine tY 30 opM30 (.bool true) hHeld ?_
      refine wpAnyH_done (by kernel_rfl) ?_ _
      have HB1 : Hid (Below w0.heap.size w0 wA.drew):=bstep HBA.out (bdrew _)
      go_wp2_with fail
      go_ret
      exact ⟨ret_bool HBad.out.symm,bstep HB0.out HB1.out⟩
     by_cases g2 : (g.ts.length : Int) ≤ y.ow
     ·have HBad : Hid (imB g = false):=HN.out (by rw [rm_eq]; unfold numB; simp; omega)
      clear HY HN HZ0 HZk HNk
      refine wp_region_held_drew (S:=(fun W : World => W.cell? ⟨wr.heap.size,0,none⟩ = some (.string y.nm)∧W.cell? ⟨wr.heap.size,1,none⟩ = some (.int .i64 y.ow)∧W.cell? ⟨wr.heap.size,2,none⟩ = some (.int .i64 y.fl)∧W.cell? ⟨wr.heap.size,3,none⟩ = some (.slice y.pa y.ps.length y.pc)∧W.cell? ⟨wr.heap.size,4,none⟩ = some (.int .i64 y.rt.1)∧W.cell? ⟨wr.heap.size,5,none⟩ = some (.int .i64 y.rt.2.1)∧W.cell? ⟨wr.heap.size,6,none⟩ = some (.int .i64 y.rt.2.2.1)∧W.cell? ⟨wr.heap.size,7,none⟩ = some (.bool y.rt.2.2.2)∧W.cell? ⟨wr.heap.size,8,none⟩ = some (.slice y.la y.ls.length y.lc)∧W.cell? ⟨wr.heap.size,9,none⟩ = some (.int .i64 y.mx)∧W.cell? ⟨wr.heap.size,10,none⟩ = some (.slice y.ca y.co.length y.cc)∧W.cell? ⟨wr.heap.size,11,none⟩ = some (.slice y.ka y.cl.length y.kc)∧W.cell? ⟨w.heap.size,0,none⟩ = some (.slice g.ta g.ts.length g.tc)∧W.cell? ⟨w.heap.size,1,none⟩ = some (.slice g.fa g.fs.length g.fc)∧W.cell? ⟨w.heap.size,2,none⟩ = some (.slice (some ⟨b,off,none⟩) g.ms.length g.mc)∧W.cell? ⟨w.heap.size,3,none⟩ = some (.int .i64 g.en))) (by kernel_rfl) (HK.out _ (bdrew _)) (fun hHeld => ?_)
      refine tY 0 opM0 (.pointer (some ⟨wr.heap.size,1,none⟩)) hHeld ?_
      refine tY 1 opM1 (.int .i64 y.ow) hHeld ?_
      refine tY 2 opM2 (.bool false) hHeld ?_
      refine tY 3 opM3 (.bool false) hHeld ?_
      refine tY 4 opM4 (.pointer (some ⟨wr.heap.size,1,none⟩)) hHeld ?_
      refine tY 5 opM5 (.int .i64 y.ow) hHeld ?_
      refine tY 6 opM6 (.int .i64 g.ts.length) hHeld ?_
      refine tY 7 opM7 (.bool true) hHeld ?_
      refine tY 8 opM8 (.bool true) hHeld ?_
      refine tY 9 opM9 (.bool true) hHeld ?_
      refine tN 10 opM10 hHeld ?_
      refine tN 11 opM11 hHeld ?_
      refine tN 12 opM12 hHeld ?_
      refine tN 13 opM13 hHeld ?_
      refine tN 14 opM14 hHeld ?_
      refine tN 15 opM15 hHeld ?_
      refine tN 16 opM16 hHeld ?_
      refine tN 17 opM17 hHeld ?_
      refine tN 18 opM18 hHeld ?_
      refine tN 19 opM19 hHeld ?_
      refine tN 20 opM20 hHeld ?_
      refine tN 21 opM21 hHeld ?_
      refine tN 22 opM22 hHeld ?_
      refine tN 23 opM23 hHeld ?_
      refine tY 24 opM24 (.bool true) hHeld ?_
      refine tY 25 opM25 (.bool true) hHeld ?_
      refine tN 26 opM26 hHeld ?_
      refine tN 27 opM27 hHeld ?_
      refine tN 28 opM28 hHeld ?_
      refine tN 29 opM29 hHeld ?_
      refine tY 30 opM30 (.bool true) hHeld ?_
      refine wpAnyH_done (by kernel_rfl) ?_ _
      have HB1 : Hid (Below w0.heap.size w0 wA.drew):=bstep HBA.out (bdrew _)
      go_wp2_with fail
      go_ret
      exact ⟨ret_bool HBad.out.symm,bstep HB0.out HB1.out⟩
     have HNu : Hid (numB y.ow g.ts.length = true):=by show _ = _; unfold numB; simp; omega
     by_cases hq0 : q = 0
     ·have i0 : ¬ (0 : Int) < (q : Int):=by omega
      cases hm : rmB g.ts.length g.fs.length g.ms.length y with
      | false =>
       have HBad : Hid (imB g = false):=HN.out (by rw [rm_eq,hm]; simp)
       rw [hm] at HMy
       clear hm HY HN HZ0 HZk HNk
       refine wp_region_held_drew (S:=(fun W : World => W.cell? ⟨wr.heap.size,0,none⟩ = some (.string y.nm)∧W.cell? ⟨wr.heap.size,1,none⟩ = some (.int .i64 y.ow)∧W.cell? ⟨wr.heap.size,2,none⟩ = some (.int .i64 y.fl)∧W.cell? ⟨wr.heap.size,3,none⟩ = some (.slice y.pa y.ps.length y.pc)∧W.cell? ⟨wr.heap.size,4,none⟩ = some (.int .i64 y.rt.1)∧W.cell? ⟨wr.heap.size,5,none⟩ = some (.int .i64 y.rt.2.1)∧W.cell? ⟨wr.heap.size,6,none⟩ = some (.int .i64 y.rt.2.2.1)∧W.cell? ⟨wr.heap.size,7,none⟩ = some (.bool y.rt.2.2.2)∧W.cell? ⟨wr.heap.size,8,none⟩ = some (.slice y.la y.ls.length y.lc)∧W.cell? ⟨wr.heap.size,9,none⟩ = some (.int .i64 y.mx)∧W.cell? ⟨wr.heap.size,10,none⟩ = some (.slice y.ca y.co.length y.cc)∧W.cell? ⟨wr.heap.size,11,none⟩ = some (.slice y.ka y.cl.length y.kc)∧W.cell? ⟨w.heap.size,0,none⟩ = some (.slice g.ta g.ts.length g.tc)∧W.cell? ⟨w.heap.size,1,none⟩ = some (.slice g.fa g.fs.length g.fc)∧W.cell? ⟨w.heap.size,2,none⟩ = some (.slice (some ⟨b,off,none⟩) g.ms.length g.mc)∧W.cell? ⟨w.heap.size,3,none⟩ = some (.int .i64 g.en))) (by kernel_rfl) (HK.out _ (bdrew _)) (fun hHeld => ?_)
       refine tY 0 opM0 (.pointer (some ⟨wr.heap.size,1,none⟩)) hHeld ?_
       refine tY 1 opM1 (.int .i64 y.ow) hHeld ?_
       refine tY 2 opM2 (.bool false) hHeld ?_
       refine tY 3 opM3 (.bool false) hHeld ?_
       refine tY 4 opM4 (.pointer (some ⟨wr.heap.size,1,none⟩)) hHeld ?_
       refine tY 5 opM5 (.int .i64 y.ow) hHeld ?_
       refine tY 6 opM6 (.int .i64 g.ts.length) hHeld ?_
       refine tY 7 opM7 (.bool false) hHeld ?_
       refine tY 8 opM8 (.bool false) hHeld ?_
       refine tY 9 opM9 (.bool false) hHeld ?_
       refine tY 10 opM10 (.int .i64 q) hHeld ?_
       refine tY 11 opM11 (.bool false) hHeld ?_
       refine tY 12 opM12 (.bool false) hHeld ?_
       refine tN 13 opM13 hHeld ?_
       refine tN 14 opM14 hHeld ?_
       refine tN 15 opM15 hHeld ?_
       refine tN 16 opM16 hHeld ?_
       refine tN 17 opM17 hHeld ?_
       refine tN 18 opM18 hHeld ?_
       refine tN 19 opM19 hHeld ?_
       refine tN 20 opM20 hHeld ?_
       refine tN 21 opM21 hHeld ?_
       refine tN 22 opM22 hHeld ?_
       refine tY 23 opM23 (.bool false) hHeld ?_
       refine tY 24 opM24 (.bool false) hHeld ?_
       refine tY 25 opM25 (.bool false) hHeld ?_
       refine tY 26 opM26 (.agg #[.string y.nm,.int .i64 y.ow,.int .i64 y.fl,.slice y.pa y.ps.length y.pc,.int .i64 y.rt.1,.int .i64 y.rt.2.1,.int .i64 y.rt.2.2.1,.bool y.rt.2.2.2,.slice y.la y.ls.length y.lc,.int .i64 y.mx,.slice y.ca y.co.length y.cc,.slice y.ka y.cl.length y.kc]) hHeld ?_
       refine tY 27 opM27 (.agg #[.slice g.ta g.ts.length g.tc,.slice g.fa g.fs.length g.fc,.slice (some ⟨b,off,none⟩) g.ms.length g.mc,.int .i64 g.en]) hHeld ?_
       refine wpAnyH_ready (rs := [28]) (by kernel_rfl) (by simp) ?_
       refine AllReadyH.cons (o:=opM28) rfl (fun K hK => ?_) AllReadyH.nil
       go_simp
       refine (HMy.out _ (bdrew _)).mono ?_
       rintro e w1 ⟨rfl,hb1⟩
       have hBc : Below wA.heap.size wA w1:=bstep (bdrew _) hb1
       try go_wp2_with fail
       refine hK.out _ _ (HK.out _ hBc) (fun hHeld => ?_)
       clear hK K
       try simp only [Act.put,sA,s0,sS]
       refine tY 29 opM29 (.bool true) hHeld ?_
       refine tY 30 opM30 (.bool true) hHeld ?_
       refine wpAnyH_done (by kernel_rfl) ?_ _
       have HB1 : Hid (Below w0.heap.size w0 w1):=bstep HBA.out hBc
       clear hBc hb1
       go_wp2_with fail
       go_ret
       exact ⟨ret_bool HBad.out.symm,bstep HB0.out HB1.out⟩
      | true =>
       have HY2 : Hid _:=HY.out (by rw [rm_eq,HNu.out,hm]; rfl)
       have HZ2 : Hid _:=HZ0.out hq0
       rw [hm] at HMy
       clear hm HY HN HZ0 HZk HNk
       refine wp_region_held_drew (S:=(fun W : World => W.cell? ⟨wr.heap.size,0,none⟩ = some (.string y.nm)∧W.cell? ⟨wr.heap.size,1,none⟩ = some (.int .i64 y.ow)∧W.cell? ⟨wr.heap.size,2,none⟩ = some (.int .i64 y.fl)∧W.cell? ⟨wr.heap.size,3,none⟩ = some (.slice y.pa y.ps.length y.pc)∧W.cell? ⟨wr.heap.size,4,none⟩ = some (.int .i64 y.rt.1)∧W.cell? ⟨wr.heap.size,5,none⟩ = some (.int .i64 y.rt.2.1)∧W.cell? ⟨wr.heap.size,6,none⟩ = some (.int .i64 y.rt.2.2.1)∧W.cell? ⟨wr.heap.size,7,none⟩ = some (.bool y.rt.2.2.2)∧W.cell? ⟨wr.heap.size,8,none⟩ = some (.slice y.la y.ls.length y.lc)∧W.cell? ⟨wr.heap.size,9,none⟩ = some (.int .i64 y.mx)∧W.cell? ⟨wr.heap.size,10,none⟩ = some (.slice y.ca y.co.length y.cc)∧W.cell? ⟨wr.heap.size,11,none⟩ = some (.slice y.ka y.cl.length y.kc)∧W.cell? ⟨w.heap.size,0,none⟩ = some (.slice g.ta g.ts.length g.tc)∧W.cell? ⟨w.heap.size,1,none⟩ = some (.slice g.fa g.fs.length g.fc)∧W.cell? ⟨w.heap.size,2,none⟩ = some (.slice (some ⟨b,off,none⟩) g.ms.length g.mc)∧W.cell? ⟨w.heap.size,3,none⟩ = some (.int .i64 g.en))) (by kernel_rfl) (HK.out _ (bdrew _)) (fun hHeld => ?_)
       refine tY 0 opM0 (.pointer (some ⟨wr.heap.size,1,none⟩)) hHeld ?_
       refine tY 1 opM1 (.int .i64 y.ow) hHeld ?_
       refine tY 2 opM2 (.bool false) hHeld ?_
       refine tY 3 opM3 (.bool false) hHeld ?_
       refine tY 4 opM4 (.pointer (some ⟨wr.heap.size,1,none⟩)) hHeld ?_
       refine tY 5 opM5 (.int .i64 y.ow) hHeld ?_
       refine tY 6 opM6 (.int .i64 g.ts.length) hHeld ?_
       refine tY 7 opM7 (.bool false) hHeld ?_
       refine tY 8 opM8 (.bool false) hHeld ?_
       refine tY 9 opM9 (.bool false) hHeld ?_
       refine tY 10 opM10 (.int .i64 q) hHeld ?_
       refine tY 11 opM11 (.bool false) hHeld ?_
       refine tY 12 opM12 (.bool false) hHeld ?_
       refine tN 13 opM13 hHeld ?_
       refine tN 14 opM14 hHeld ?_
       refine tN 15 opM15 hHeld ?_
       refine tN 16 opM16 hHeld ?_
       refine tN 17 opM17 hHeld ?_
       refine tN 18 opM18 hHeld ?_
       refine tN 19 opM19 hHeld ?_
       refine tN 20 opM20 hHeld ?_
       refine tN 21 opM21 hHeld ?_
       refine tN 22 opM22 hHeld ?_
       refine tY 23 opM23 (.bool false) hHeld ?_
       refine tY 24 opM24 (.bool false) hHeld ?_
       refine tY 25 opM25 (.bool false) hHeld ?_
       refine tY 26 opM26 (.agg #[.string y.nm,.int .i64 y.ow,.int .i64 y.fl,.slice y.pa y.ps.length y.pc,.int .i64 y.rt.1,.int .i64 y.rt.2.1,.int .i64 y.rt.2.2.1,.bool y.rt.2.2.2,.slice y.la y.ls.length y.lc,.int .i64 y.mx,.slice y.ca y.co.length y.cc,.slice y.ka y.cl.length y.kc]) hHeld ?_
       refine tY 27 opM27 (.agg #[.slice g.ta g.ts.length g.tc,.slice g.fa g.fs.length g.fc,.slice (some ⟨b,off,none⟩) g.ms.length g.mc,.int .i64 g.en]) hHeld ?_
       refine wpAnyH_ready (rs := [28]) (by kernel_rfl) (by simp) ?_
       refine AllReadyH.cons (o:=opM28) rfl (fun K hK => ?_) AllReadyH.nil
       go_simp
       refine (HMy.out _ (bdrew _)).mono ?_
       rintro e w1 ⟨rfl,hb1⟩
       have hBc : Below wA.heap.size wA w1:=bstep (bdrew _) hb1
       try go_wp2_with fail
       refine hK.out _ _ (HK.out _ hBc) (fun hHeld => ?_)
       clear hK K
       try simp only [Act.put,sA,s0,sS]
       refine tY 29 opM29 (.bool false) hHeld ?_
       refine tY 30 opM30 (.bool false) hHeld ?_
       refine wpAnyH_done (by kernel_rfl) ?_ _
       have HB1 : Hid (Below w0.heap.size w0 w1):=bstep HBA.out hBc
       clear hBc hb1
       go_wp2_with fail
       go_roundw
       case rel => exact ⟨q + 1,by omega,by go_num,HB1.out,HY2.out,HZ2.out⟩
       case measure => simp [intOf]; omega
     obtain ⟨k,hk⟩ : ∃ k,q = k + 1:=⟨q - 1,by omega⟩
     have i0 : (0 : Int) < (q : Int):=by omega
     have i0n : 0 < q:=by omega
     have i2 : k < g.ms.length:=by omega
     have i3 : (k : Int) < (g.ms.length : Int):=by omega
     have e2 : IntKind.i64.wrap ((q : Int) - 1) = (k : Int):=by rw [IntKind.wrap_i64]; omega
     have HZr : Hid (g.ms[k].ow ≤ y.ow → UpTo (g.ms.map (·.ow)) (q + 1)):=HZk.out k i2 hk
     have HNr : Hid (y.ow < g.ms[k].ow → imB g = false):=HNk.out k i2 hk
     have HPz : Hid (∀ W,Below wA.heap.size wA W → W.cell? ⟨b,off + k * 12 + 1,none⟩ = some (.int .i64 g.ms[k].ow)):=fun W hW => ((show El mdE wr b (off + k * 12) g.ms[k] from HCs.out k i2).below (bstep HBw.out hW) hb).cells_M.2.1
     generalize g.ms[k] = z at *
     have HK2 : Hid (∀ W,Below wA.heap.size wA W → W.cell? ⟨b,off + k * 12 + 1,none⟩ = some (.int .i64 z.ow)∧W.cell? ⟨wr.heap.size,0,none⟩ = some (.string y.nm)∧W.cell? ⟨wr.heap.size,1,none⟩ = some (.int .i64 y.ow)∧W.cell? ⟨wr.heap.size,2,none⟩ = some (.int .i64 y.fl)∧W.cell? ⟨wr.heap.size,3,none⟩ = some (.slice y.pa y.ps.length y.pc)∧W.cell? ⟨wr.heap.size,4,none⟩ = some (.int .i64 y.rt.1)∧W.cell? ⟨wr.heap.size,5,none⟩ = some (.int .i64 y.rt.2.1)∧W.cell? ⟨wr.heap.size,6,none⟩ = some (.int .i64 y.rt.2.2.1)∧W.cell? ⟨wr.heap.size,7,none⟩ = some (.bool y.rt.2.2.2)∧W.cell? ⟨wr.heap.size,8,none⟩ = some (.slice y.la y.ls.length y.lc)∧W.cell? ⟨wr.heap.size,9,none⟩ = some (.int .i64 y.mx)∧W.cell? ⟨wr.heap.size,10,none⟩ = some (.slice y.ca y.co.length y.cc)∧W.cell? ⟨wr.heap.size,11,none⟩ = some (.slice y.ka y.cl.length y.kc)∧W.cell? ⟨w.heap.size,0,none⟩ = some (.slice g.ta g.ts.length g.tc)∧W.cell? ⟨w.heap.size,1,none⟩ = some (.slice g.fa g.fs.length g.fc)∧W.cell? ⟨w.heap.size,2,none⟩ = some (.slice (some ⟨b,off,none⟩) g.ms.length g.mc)∧W.cell? ⟨w.heap.size,3,none⟩ = some (.int .i64 g.en)):=fun W hW => ⟨HPz.out W hW,HK.out W hW⟩
     have HQk : Hid (q = k + 1):=hk
     clear hk
     by_cases g3 : y.ow < z.ow
     ·have HBad : Hid (imB g = false):=HNr.out g3
      clear HY HN HZ0 HZk HNk
      refine wp_region_held_drew (S:=(fun W : World => W.cell? ⟨b,off + k * 12 + 1,none⟩ = some (.int .i64 z.ow)∧W.cell? ⟨wr.heap.size,0,none⟩ = some (.string y.nm)∧W.cell? ⟨wr.heap.size,1,none⟩ = some (.int .i64 y.ow)∧W.cell? ⟨wr.heap.size,2,none⟩ = some (.int .i64 y.fl)∧W.cell? ⟨wr.heap.size,3,none⟩ = some (.slice y.pa y.ps.length y.pc)∧W.cell? ⟨wr.heap.size,4,none⟩ = some (.int .i64 y.rt.1)∧W.cell? ⟨wr.heap.size,5,none⟩ = some (.int .i64 y.rt.2.1)∧W.cell? ⟨wr.heap.size,6,none⟩ = some (.int .i64 y.rt.2.2.1)∧W.cell? ⟨wr.heap.size,7,none⟩ = some (.bool y.rt.2.2.2)∧W.cell? ⟨wr.heap.size,8,none⟩ = some (.slice y.la y.ls.length y.lc)∧W.cell? ⟨wr.heap.size,9,none⟩ = some (.int .i64 y.mx)∧W.cell? ⟨wr.heap.size,10,none⟩ = some (.slice y.ca y.co.length y.cc)∧W.cell? ⟨wr.heap.size,11,none⟩ = some (.slice y.ka y.cl.length y.kc)∧W.cell? ⟨w.heap.size,0,none⟩ = some (.slice g.ta g.ts.length g.tc)∧W.cell? ⟨w.heap.size,1,none⟩ = some (.slice g.fa g.fs.length g.fc)∧W.cell? ⟨w.heap.size,2,none⟩ = some (.slice (some ⟨b,off,none⟩) g.ms.length g.mc)∧W.cell? ⟨w.heap.size,3,none⟩ = some (.int .i64 g.en))) (by kernel_rfl) (HK2.out _ (bdrew _)) (fun hHeld => ?_)
      refine tY 0 opM0 (.pointer (some ⟨wr.heap.size,1,none⟩)) hHeld ?_
      refine tY 1 opM1 (.int .i64 y.ow) hHeld ?_
      refine tY 2 opM2 (.bool false) hHeld ?_
      refine tY 3 opM3 (.bool false) hHeld ?_
      refine tY 4 opM4 (.pointer (some ⟨wr.heap.size,1,none⟩)) hHeld ?_
      refine tY 5 opM5 (.int .i64 y.ow) hHeld ?_
      refine tY 6 opM6 (.int .i64 g.ts.length) hHeld ?_
      refine tY 7 opM7 (.bool false) hHeld ?_
      refine tY 8 opM8 (.bool false) hHeld ?_
      refine tY 9 opM9 (.bool false) hHeld ?_
      refine tY 10 opM10 (.int .i64 q) hHeld ?_
      refine tY 11 opM11 (.bool true) hHeld ?_
      refine tY 12 opM12 (.bool true) hHeld ?_
      refine tY 13 opM13 (.pointer (some ⟨wr.heap.size,1,none⟩)) hHeld ?_
      refine tY 14 opM14 (.int .i64 y.ow) hHeld ?_
      refine tY 15 opM15 (.pointer (some ⟨w.heap.size,2,none⟩)) hHeld ?_
      refine tY 16 opM16 (.slice (some ⟨b,off,none⟩) g.ms.length g.mc) hHeld ?_
      refine tY 17 opM17 (.int .i64 q) hHeld ?_
      refine tY 18 opM18 (.int .i64 k) hHeld ?_
      refine tY 19 opM19 (.pointer (some ⟨b,off + k * 12,none⟩)) hHeld ?_
      refine tY 20 opM20 (.pointer (some ⟨b,off + k * 12 + 1,none⟩)) hHeld ?_
      refine tY 21 opM21 (.int .i64 z.ow) hHeld ?_
      refine tY 22 opM22 (.bool true) hHeld ?_
      refine tY 23 opM23 (.bool true) hHeld ?_
      refine tY 24 opM24 (.bool true) hHeld ?_
      refine tY 25 opM25 (.bool true) hHeld ?_
      refine tN 26 opM26 hHeld ?_
      refine tN 27 opM27 hHeld ?_
      refine tN 28 opM28 hHeld ?_
      refine tN 29 opM29 hHeld ?_
      refine tY 30 opM30 (.bool true) hHeld ?_
      refine wpAnyH_done (by kernel_rfl) ?_ _
      have HB1 : Hid (Below w0.heap.size w0 wA.drew):=bstep HBA.out (bdrew _)
      go_wp2_with fail
      go_ret
      exact ⟨ret_bool HBad.out.symm,bstep HB0.out HB1.out⟩
     have HLe : Hid (z.ow ≤ y.ow):=by show _ ≤ _; omega
     cases hm : rmB g.ts.length g.fs.length g.ms.length y with
     | false =>
      have HBad : Hid (imB g = false):=HN.out (by rw [rm_eq,hm]; simp)
      rw [hm] at HMy
      clear hm HY HN HZ0 HZk HNk
      refine wp_region_held_drew (S:=(fun W : World => W.cell? ⟨b,off + k * 12 + 1,none⟩ = some (.int .i64 z.ow)∧W.cell? ⟨wr.heap.size,0,none⟩ = some (.string y.nm)∧W.cell? ⟨wr.heap.size,1,none⟩ = some (.int .i64 y.ow)∧W.cell? ⟨wr.heap.size,2,none⟩ = some (.int .i64 y.fl)∧W.cell? ⟨wr.heap.size,3,none⟩ = some (.slice y.pa y.ps.length y.pc)∧W.cell? ⟨wr.heap.size,4,none⟩ = some (.int .i64 y.rt.1)∧W.cell? ⟨wr.heap.size,5,none⟩ = some (.int .i64 y.rt.2.1)∧W.cell? ⟨wr.heap.size,6,none⟩ = some (.int .i64 y.rt.2.2.1)∧W.cell? ⟨wr.heap.size,7,none⟩ = some (.bool y.rt.2.2.2)∧W.cell? ⟨wr.heap.size,8,none⟩ = some (.slice y.la y.ls.length y.lc)∧W.cell? ⟨wr.heap.size,9,none⟩ = some (.int .i64 y.mx)∧W.cell? ⟨wr.heap.size,10,none⟩ = some (.slice y.ca y.co.length y.cc)∧W.cell? ⟨wr.heap.size,11,none⟩ = some (.slice y.ka y.cl.length y.kc)∧W.cell? ⟨w.heap.size,0,none⟩ = some (.slice g.ta g.ts.length g.tc)∧W.cell? ⟨w.heap.size,1,none⟩ = some (.slice g.fa g.fs.length g.fc)∧W.cell? ⟨w.heap.size,2,none⟩ = some (.slice (some ⟨b,off,none⟩) g.ms.length g.mc)∧W.cell? ⟨w.heap.size,3,none⟩ = some (.int .i64 g.en))) (by kernel_rfl) (HK2.out _ (bdrew _)) (fun hHeld => ?_)
      refine tY 0 opM0 (.pointer (some ⟨wr.heap.size,1,none⟩)) hHeld ?_
      refine tY 1 opM1 (.int .i64 y.ow) hHeld ?_
      refine tY 2 opM2 (.bool false) hHeld ?_
      refine tY 3 opM3 (.bool false) hHeld ?_
      refine tY 4 opM4 (.pointer (some ⟨wr.heap.size,1,none⟩)) hHeld ?_
      refine tY 5 opM5 (.int .i64 y.ow) hHeld ?_
      refine tY 6 opM6 (.int .i64 g.ts.length) hHeld ?_
      refine tY 7 opM7 (.bool false) hHeld ?_
      refine tY 8 opM8 (.bool false) hHeld ?_
      refine tY 9 opM9 (.bool false) hHeld ?_
      refine tY 10 opM10 (.int .i64 q) hHeld ?_
      refine tY 11 opM11 (.bool true) hHeld ?_
      refine tY 12 opM12 (.bool true) hHeld ?_
      refine tY 13 opM13 (.pointer (some ⟨wr.heap.size,1,none⟩)) hHeld ?_
      refine tY 14 opM14 (.int .i64 y.ow) hHeld ?_
      refine tY 15 opM15 (.pointer (some ⟨w.heap.size,2,none⟩)) hHeld ?_
      refine tY 16 opM16 (.slice (some ⟨b,off,none⟩) g.ms.length g.mc) hHeld ?_
      refine tY 17 opM17 (.int .i64 q) hHeld ?_
      refine tY 18 opM18 (.int .i64 k) hHeld ?_
      refine tY 19 opM19 (.pointer (some ⟨b,off + k * 12,none⟩)) hHeld ?_
      refine tY 20 opM20 (.pointer (some ⟨b,off + k * 12 + 1,none⟩)) hHeld ?_
      refine tY 21 opM21 (.int .i64 z.ow) hHeld ?_
      refine tY 22 opM22 (.bool false) hHeld ?_
      refine tY 23 opM23 (.bool false) hHeld ?_
      refine tY 24 opM24 (.bool false) hHeld ?_
      refine tY 25 opM25 (.bool false) hHeld ?_
      refine tY 26 opM26 (.agg #[.string y.nm,.int .i64 y.ow,.int .i64 y.fl,.slice y.pa y.ps.length y.pc,.int .i64 y.rt.1,.int .i64 y.rt.2.1,.int .i64 y.rt.2.2.1,.bool y.rt.2.2.2,.slice y.la y.ls.length y.lc,.int .i64 y.mx,.slice y.ca y.co.length y.cc,.slice y.ka y.cl.length y.kc]) hHeld ?_
      refine tY 27 opM27 (.agg #[.slice g.ta g.ts.length g.tc,.slice g.fa g.fs.length g.fc,.slice (some ⟨b,off,none⟩) g.ms.length g.mc,.int .i64 g.en]) hHeld ?_
      refine wpAnyH_ready (rs := [28]) (by kernel_rfl) (by simp) ?_
      refine AllReadyH.cons (o:=opM28) rfl (fun K hK => ?_) AllReadyH.nil
      go_simp
      refine (HMy.out _ (bdrew _)).mono ?_
      rintro e w1 ⟨rfl,hb1⟩
      have hBc : Below wA.heap.size wA w1:=bstep (bdrew _) hb1
      try go_wp2_with fail
      refine hK.out _ _ (HK2.out _ hBc) (fun hHeld => ?_)
      clear hK K
      try simp only [Act.put,sA,s0,sS]
      refine tY 29 opM29 (.bool true) hHeld ?_
      refine tY 30 opM30 (.bool true) hHeld ?_
      refine wpAnyH_done (by kernel_rfl) ?_ _
      have HB1 : Hid (Below w0.heap.size w0 w1):=bstep HBA.out hBc
      clear hBc hb1
      go_wp2_with fail
      go_ret
      exact ⟨ret_bool HBad.out.symm,bstep HB0.out HB1.out⟩
     | true =>
      have HY2 : Hid _:=HY.out (by rw [rm_eq,HNu.out,hm]; rfl)
      have HZ2 : Hid _:=HZr.out HLe.out
      rw [hm] at HMy
      clear hm HY HN HZ0 HZk HNk
      refine wp_region_held_drew (S:=(fun W : World => W.cell? ⟨b,off + k * 12 + 1,none⟩ = some (.int .i64 z.ow)∧W.cell? ⟨wr.heap.size,0,none⟩ = some (.string y.nm)∧W.cell? ⟨wr.heap.size,1,none⟩ = some (.int .i64 y.ow)∧W.cell? ⟨wr.heap.size,2,none⟩ = some (.int .i64 y.fl)∧W.cell? ⟨wr.heap.size,3,none⟩ = some (.slice y.pa y.ps.length y.pc)∧W.cell? ⟨wr.heap.size,4,none⟩ = some (.int .i64 y.rt.1)∧W.cell? ⟨wr.heap.size,5,none⟩ = some (.int .i64 y.rt.2.1)∧W.cell? ⟨wr.heap.size,6,none⟩ = some (.int .i64 y.rt.2.2.1)∧W.cell? ⟨wr.heap.size,7,none⟩ = some (.bool y.rt.2.2.2)∧W.cell? ⟨wr.heap.size,8,none⟩ = some (.slice y.la y.ls.length y.lc)∧W.cell? ⟨wr.heap.size,9,none⟩ = some (.int .i64 y.mx)∧W.cell? ⟨wr.heap.size,10,none⟩ = some (.slice y.ca y.co.length y.cc)∧W.cell? ⟨wr.heap.size,11,none⟩ = some (.slice y.ka y.cl.length y.kc)∧W.cell? ⟨w.heap.size,0,none⟩ = some (.slice g.ta g.ts.length g.tc)∧W.cell? ⟨w.heap.size,1,none⟩ = some (.slice g.fa g.fs.length g.fc)∧W.cell? ⟨w.heap.size,2,none⟩ = some (.slice (some ⟨b,off,none⟩) g.ms.length g.mc)∧W.cell? ⟨w.heap.size,3,none⟩ = some (.int .i64 g.en))) (by kernel_rfl) (HK2.out _ (bdrew _)) (fun hHeld => ?_)
      refine tY 0 opM0 (.pointer (some ⟨wr.heap.size,1,none⟩)) hHeld ?_
      refine tY 1 opM1 (.int .i64 y.ow) hHeld ?_
      refine tY 2 opM2 (.bool false) hHeld ?_
      refine tY 3 opM3 (.bool false) hHeld ?_
      refine tY 4 opM4 (.pointer (some ⟨wr.heap.size,1,none⟩)) hHeld ?_
      refine tY 5 opM5 (.int .i64 y.ow) hHeld ?_
      refine tY 6 opM6 (.int .i64 g.ts.length) hHeld ?_
      refine tY 7 opM7 (.bool false) hHeld ?_
      refine tY 8 opM8 (.bool false) hHeld ?_
      refine tY 9 opM9 (.bool false) hHeld ?_
      refine tY 10 opM10 (.int .i64 q) hHeld ?_
      refine tY 11 opM11 (.bool true) hHeld ?_
      refine tY 12 opM12 (.bool true) hHeld ?_
      refine tY 13 opM13 (.pointer (some ⟨wr.heap.size,1,none⟩)) hHeld ?_
      refine tY 14 opM14 (.int .i64 y.ow) hHeld ?_
      refine tY 15 opM15 (.pointer (some ⟨w.heap.size,2,none⟩)) hHeld ?_
      refine tY 16 opM16 (.slice (some ⟨b,off,none⟩) g.ms.length g.mc) hHeld ?_
      refine tY 17 opM17 (.int .i64 q) hHeld ?_
      refine tY 18 opM18 (.int .i64 k) hHeld ?_
      refine tY 19 opM19 (.pointer (some ⟨b,off + k * 12,none⟩)) hHeld ?_
      refine tY 20 opM20 (.pointer (some ⟨b,off + k * 12 + 1,none⟩)) hHeld ?_
      refine tY 21 opM21 (.int .i64 z.ow) hHeld ?_
      refine tY 22 opM22 (.bool false) hHeld ?_
      refine tY 23 opM23 (.bool false) hHeld ?_
      refine tY 24 opM24 (.bool false) hHeld ?_
      refine tY 25 opM25 (.bool false) hHeld ?_
      refine tY 26 opM26 (.agg #[.string y.nm,.int .i64 y.ow,.int .i64 y.fl,.slice y.pa y.ps.length y.pc,.int .i64 y.rt.1,.int .i64 y.rt.2.1,.int .i64 y.rt.2.2.1,.bool y.rt.2.2.2,.slice y.la y.ls.length y.lc,.int .i64 y.mx,.slice y.ca y.co.length y.cc,.slice y.ka y.cl.length y.kc]) hHeld ?_
      refine tY 27 opM27 (.agg #[.slice g.ta g.ts.length g.tc,.slice g.fa g.fs.length g.fc,.slice (some ⟨b,off,none⟩) g.ms.length g.mc,.int .i64 g.en]) hHeld ?_
      refine wpAnyH_ready (rs := [28]) (by kernel_rfl) (by simp) ?_
      refine AllReadyH.cons (o:=opM28) rfl (fun K hK => ?_) AllReadyH.nil
      go_simp
      refine (HMy.out _ (bdrew _)).mono ?_
      rintro e w1 ⟨rfl,hb1⟩
      have hBc : Below wA.heap.size wA w1:=bstep (bdrew _) hb1
      try go_wp2_with fail
      refine hK.out _ _ (HK2.out _ hBc) (fun hHeld => ?_)
      clear hK K
      try simp only [Act.put,sA,s0,sS]
      refine tY 29 opM29 (.bool false) hHeld ?_
      refine tY 30 opM30 (.bool false) hHeld ?_
      refine wpAnyH_done (by kernel_rfl) ?_ _
      have HB1 : Hid (Below w0.heap.size w0 w1):=bstep HBA.out hBc
      clear hBc hb1
      go_wp2_with fail
      go_roundw
      case rel => exact ⟨q + 1,by omega,by go_num,HB1.out,HY2.out,HZ2.out⟩
      case measure => simp [intOf]; omega
    have HT4 : Hid (g.ms.all (mdB g.ts.length g.fs.length g.ms.length) = true):=all_done hql HA.out
    have HT5 : Hid (risB (g.ms.map (·.ow)) = true):=upTo_all HZ.out (by simp; omega)
    have HYes : Hid (imB g = true):=HOK.out HT1.out HT2.out HT3.out HT4.out HT5.out
    have c1:=(HAT.out wr hB).cell
    unfold imA at c1
    clear HA hB HZ
    go_wp2_with fail
    go_ret
    exact ⟨ret_bool HYes.out.symm,bstep HB0.out HBr.out⟩
end Go.Proofs.YtapocgcdjkbnhaaDoor
