/- Texts joined: ChkDiffer11, ChkComes11, ChkFac11. -/
import Derived.Test.YthpmpdpfnlecmaaGreatQ17
import Derived.Test.YthpmpdpfnlecmaaGreatQ14
import Derived.Test.YthpmpdpfnlecmaaGreatQ21
import Derived.Test.YthpmpdpfnlecmaaGreatQ10
import Derived.Deep.RegionHeld3
import Derived.Test.YthpmpdpfnlecmaaGreatQ19
import Derived.Test.YthpmpdpfnlecmaaGreatQ11
namespace Go.Proofs.YthpmpdpfnlecmaaGreat
set_option linter.unusedVariables false
set_option linter.unusedSimpArgs false
open Go.RowKit
attribute [local go_sem ↓] Go.wp_at_zero Go.wp_at_succ
structure TellsAp (P : Program) (w : World) (f : FuncId) (bs cs : Array Value) (ap : Int → Int → Bool) (l : List Int) : Prop where
 enter : ∀ args W,(callFunc f args).run P W = .ok (.enter f args) W
 tells : ∀ W,Below w.heap.size w W → ∀ x ∈ l,∀ y ∈ l,Calls P f (bs ++ (#[.int .i64 x,.int .i64 y] ++ cs)) W fun e w' => e = .returned (.bool (ap x y))∧Below W.heap.size W w'
theorem TellsAp.later {P : Program} {w w' : World} {f : FuncId} {bs cs : Array Value} {ap : Int → Int → Bool} {l : List Int} (h : TellsAp P w f bs cs ap l) (hb : Below w.heap.size w w') : TellsAp P w' f bs cs ap l :=
 ⟨h.enter,fun W hW x hx y hy => h.tells W (bstep hb hW) x hx y hy⟩

set_option maxHeartbeats 1000000 in
theorem differ1_any {x y : Int} {fb ab : Nat} {w : World} {f : FuncId} {bs cs : Array Value} {r : Bool} (hf : w.cell? ⟨fb,0,none⟩ = some (.func (.func f) bs cs)) (ha : w.cell? ⟨ab,0,none⟩ = some (.int .i64 x))
  (hen : ∀ args W,(callFunc f args).run Tryz.prog W = .ok (.enter f args) W) (hc : Calls Tryz.prog f (bs ++ (#[.int .i64 x,.int .i64 y] ++ cs)) w fun e w' => e = .returned (.bool r)∧Below w.heap.size w w') :
  Calls Tryz.prog 202 #[.int .i64 y,.pointer (some ⟨fb,0,none⟩),.pointer (some ⟨ab,0,none⟩)] w fun e w' => e = .returned (.bool (!r))∧Below w.heap.size w w':=by
 have HC : Hid (Calls Tryz.prog f (bs ++ (#[.int .i64 x,.int .i64 y] ++ cs)) w fun e w' => e = .returned (.bool r)∧Below w.heap.size w w'):=hc
 clear hc
 go_enter Tryz.func202,Tryz.ntmps202
 go_wp2_with fail
 refine Calls.mono HC.out ?_
 rintro e w1 ⟨rfl,hb1⟩
 have HB1 : Hid (Below w.heap.size w w1):=hb1
 clear hb1
 go_wp2_with fail
 go_ret
 exact ⟨rfl,HB1.out⟩

theorem all_not_any {α : Type} (p : α → Bool) (l : List α) : (l.any fun y => !p y) = !(l.all p):=by
 induction l with
 | nil => rfl
 | cons a r ih => simp [ih]

set_option maxHeartbeats 4000000 in
theorem differ_any {v : Value} {l : List Int} {w : World} {f : FuncId} {bs cs : Array Value} {ap : Int → Int → Bool} (hl : Is w v l) (hf : TellsAp Tryz.prog w f bs cs ap l) :
  Calls Tryz.prog 160 #[v,.func (.func f) bs cs] w fun e w' => e = .returned (.bool (difB ap l))∧Below w.heap.size w w':=by
 obtain ⟨w0,hw0⟩ : ∃ W,W = w.alloc (.cells #[.func (.func f) bs cs] 79):=⟨_,rfl⟩
 have HW0 : Hid (w0 = _):=hw0
 have hb0 : Below w.heap.size w w0:=by rw [hw0]; exact made_below _ _ _
 have HB0 : Hid (Below w.heap.size w w0):=hb0
 have hA : At w0 w.heap.size #[.func (.func f) bs cs] 79:=by rw [hw0]; exact At.made w _ _
 have HA : Hid (∀ W,Below w0.heap.size w0 W → W.cell? ⟨w.heap.size,0,none⟩ = some (.func (.func f) bs cs)∧w.heap.size < W.heap.size):=fun W hW => ⟨(hA.later hW).cell0,(hA.later hW).lt⟩
 have HF : Hid (TellsAp Tryz.prog w0 f bs cs ap l):=hf.later hb0
 have HD : Hid (difB ap l = true ↔ ∀ i (h : i < l.length),(l.take i).all (ap l[i]) = true):=difB_iff
 obtain ⟨a,c,hv,h1,h2⟩:=hl.shape
 have HI : Hid (∀ W,Below w0.heap.size w0 W → Is W (.slice a l.length c) l):=fun W hW => by
  have:=(hl.later hb0).later hW
  rw [hv] at this; exact this
 subst hv
 unfold maxLen at h2
 clear hw0 hb0 hA hl hf
 go_enter Tryz.func160,Tryz.ntmps160
 go_wp2_with (rw [← HW0.out])
 go_loopw [5,6,9] (fun _ _ z wr => ∃ q : Nat,q ≤ l.length∧z = .int .i64 q∧Hid (∀ i (h : i < l.length),i < q → (l.take i).all (ap l[i]) = true)∧Hid (Below w0.heap.size w0 wr)) (fun _ _ z _ => l.length - (intOf z).toNat)
 case atStart => exact ⟨0,Nat.zero_le _,rfl,fun i _ h => absurd h (by omega),Below.refl _ _⟩
 case round =>
  obtain ⟨q,hq,rfl,HO,HB⟩:=hrel
  by_cases hql : q < l.length
  ·have hqi : (q : Int) < (l.length : Int):=by omega
   obtain ⟨lb,loff,hla,hlb,_,h6,h7,hc⟩:=(HI.out wr HB.out).at hql
   have cq:=hc q hql
   obtain ⟨w1,hw1⟩ : ∃ W,W = wr.alloc (.cells #[.int .i64 l[q]] 3):=⟨_,rfl⟩
   have HW1 : Hid (w1 = _):=hw1
   have hb1 : Below wr.heap.size wr w1:=by rw [hw1]; exact made_below _ _ _
   have hA1 : At w1 wr.heap.size #[.int .i64 l[q]] 3:=by rw [hw1]; exact At.made _ _ _
   have HB1 : Hid (Below w0.heap.size w0 w1):=bstep HB.out hb1
   obtain ⟨hs',hes⟩:=slice_toE (P:=Tryz.prog) (HI.out w1 HB1.out).toEs q (by omega) 31 3 Tryz.underlying31 (by kernel_rfl)
   have HCo : Hid (Calls Tryz.prog 158 #[.slice a q c,.func (.func 202) #[] #[.pointer (some ⟨w.heap.size,0,none⟩),.pointer (some ⟨wr.heap.size,0,none⟩)]] w1 fun e w' => e = .returned (.bool ((l.take q).any fun y => !ap l[q] y))∧Below w1.heap.size w1 w'):=by
    refine containsN10_any hes ⟨run_enter9 Tryz.func202 (by kernel_rfl) rfl,fun W hW y hy => ?_⟩
    have hBW : Below w0.heap.size w0 W:=bstep HB1.out hW
    have:=differ1_any (w:=W) (y:=y) (HA.out W hBW).1 (hA1.later hW).cell0 HF.out.enter (HF.out.tells W hBW l[q] (List.getElem_mem hql) y (List.mem_of_mem_take hy))
    simpa [intV] using this
   have HN : Hid (((l.take q).any fun y => !ap l[q] y) = !((l.take q).all (ap l[q]))):=all_not_any _ _
   have hs : ∀ (W : World) (kk : IntKind),(Instr.slice 31 (.slice a l.length c) none (some (.int kk (q : Int))) none).run Tryz.prog W = .ok (.slice a q c) W:=fun W kk => hs' W kk
   subst hla
   clear hc hw1 hb1 hA1 hs' hes
   go_wp2_with (rw [← HW1.out])
   refine Calls.mono HCo.out ?_
   rintro e w2 ⟨rfl,hb2⟩
   have HB2 : Hid (Below w0.heap.size w0 w2):=bstep HB1.out hb2
   rw [HN.out]
   cases hall : (l.take q).all (ap l[q]) with
   | false =>
    have HR : Hid (difB ap l = false):=by
     show _ = _
     cases hd : difB ap l with
     | false => rfl
     | true => rw [HD.out.1 hd q hql] at hall; cases hall
    clear hall hb2 cq
    go_wp2_with fail
    go_ret
    exact ⟨ret_bool HR.out.symm,bstep HB0.out HB2.out⟩
   | true =>
    have HO2 : Hid (∀ i (h : i < l.length),i < q + 1 → (l.take i).all (ap l[i]) = true):=fun i h hi => by
     rcases Nat.lt_or_ge i q with h2 | h2
     ·exact HO.out i h h2
     ·obtain rfl : i = q:=by omega
      exact hall
    clear hall hb2 cq
    go_wp2_with fail
    go_roundw
    case rel => exact ⟨q + 1,by omega,by go_num,HO2.out,HB2.out⟩
    case measure => simp [intOf]; omega
  ·have hqi : ¬ (q : Int) < (l.length : Int):=by omega
   have HR : Hid (difB ap l = true):=HD.out.2 fun i h => HO.out i h (by omega)
   go_wp2_with fail
   go_ret
   exact ⟨ret_bool HR.out.symm,bstep HB0.out HB.out⟩
set_option maxHeartbeats 4000000 in
set_option maxHeartbeats 4000000 in
set_option maxRecDepth 20000 in
theorem comesBack_any {g : Img} {q : Nat} {f : FuncId} {bs cs : Array Value} {st : Int → List Int} {w : World} (hg : Im w g) (hi : imB g = true) (hq : q < g.ts.length) (hf : Steps Tryz.prog w f bs cs g.ts.length st) :
  Calls Tryz.prog 162 #[imV g,.int .i64 q,.func (.func f) bs cs] w fun e w' => e = .returned (.bool ((reachL g.ts.length st (st (q : Int))).contains (q : Int)))∧Below w.heap.size w w':=by
 obtain ⟨w0,hw0⟩ : ∃ W,W = w.alloc (.cells (imC g) 26):=⟨_,rfl⟩
 have HW0 : Hid (w0 = _):=hw0
 obtain ⟨hb0,hgb⟩:=GB.made hg hw0
 have HB0 : Hid (Below w.heap.size w w0):=hb0
 have hen:=hf.enter
 have hqn : numB (q : Int) g.ts.length = true:=by rw [numB_iff]; omega
 have HSt : Hid (∀ W,Below w0.heap.size w0 W → Calls Tryz.prog f (bs.push (.int .i64 (q : Int)) ++ cs) W fun e w' => ∃ v,e = .returned v∧Is w' v (st (q : Int))∧Below W.heap.size W w'):=fun W hW => ((hf.later hb0).steps W hW (q : Int) hqn).mono fun e w' ⟨v,h1,h2,h3,_⟩ => ⟨v,h1,h2,h3⟩
 have HGo : Hid (∀ W v,Below w0.heap.size w0 W → Is W v (st (q : Int)) → Calls Tryz.prog 36 #[.agg (imC g),v,.func (.func f) bs cs] W fun e w' => ∃ v,e = .returned v∧OwnI w' W.heap.size v (reachL g.ts.length st (st (q : Int)))∧Below W.heap.size W w'):=fun W v hW hv => goOn_any (hgb.im.later hW) (by have:=(im_len hi).1; omega) hv (fun hne k hk => hv.lt hne k hk) (fun t ht => hf.wf (q : Int) hqn t ht) ((hf.later hb0).later hW)
 have HK : Hid (∀ W,Below w0.heap.size w0 W → W.cell? ⟨w.heap.size,0,none⟩ = some (.slice g.ta g.ts.length g.tc)∧W.cell? ⟨w.heap.size,1,none⟩ = some (.slice g.fa g.fs.length g.fc)∧W.cell? ⟨w.heap.size,2,none⟩ = some (.slice g.ma g.ms.length g.mc)∧W.cell? ⟨w.heap.size,3,none⟩ = some (.int .i64 g.en)):=fun W hW => (hgb.later hW).cells
 obtain ⟨c0,c1,c2,c3⟩:=hgb.cells
 unfold imC at HW0 HGo
 clear hw0 hb0 hgb hg hi hf
 generalize reachL g.ts.length st (st (q : Int)) = R at *
 have HCo : Hid (∀ W v,Is W v R → Calls Tryz.prog 33 #[v,.int .i64 (q : Int)] W fun e w' => e = .returned (.bool (R.contains (q : Int)))∧w' = W):=fun W v hv => contains11_any hv (q : Int)
 generalize R.contains (q : Int) = r at *
 unfold imV
 go_enter Tryz.func162,Tryz.ntmps162
 go_wp2_with (rw [← HW0.out])
 go_region_held3 (fun W : World => W.cell? ⟨w.heap.size,0,none⟩ = some (.slice g.ta g.ts.length g.tc)∧W.cell? ⟨w.heap.size,1,none⟩ = some (.slice g.fa g.fs.length g.fc)∧W.cell? ⟨w.heap.size,2,none⟩ = some (.slice g.ma g.ms.length g.mc)∧W.cell? ⟨w.heap.size,3,none⟩ = some (.int .i64 g.en))
  (first | (exact HK.out _ hB2) | (exact HK.out _ hB1) | (exact HK.out _ (bdrew _)))
  (first | (go_at_call 36; refine (HGo.out _ _ hB1 hv1).mono ?_; rintro e w2 ⟨v2,rfl,hv2,hz2⟩; have hB2 : Below w0.heap.size w0 w2:=bstep hB1 hz2) | (go_at_call 33; refine (HCo.out _ _ hv2.is).mono ?_; rintro e wz ⟨rfl,hz3⟩; subst wz) | (refine (HSt.out _ (bdrew _)).mono ?_; rintro e w1 ⟨v1,rfl,hv1,hz1⟩; have hB1 : Below w0.heap.size w0 w1:=bstep (bdrew _) hz1))
 rename_i hheld
 clear hheld
 have HB3 : Hid (Below w0.heap.size w0 w2):=hB2
 clear c0 c1 c2 c3 hv1 hv2 hz1 hz2 hB1 hB2
 go_wp2_with fail
 go_ret
 exact ⟨rfl,bstep HB0.out HB3.out⟩
abbrev opG60 : Oper := { dst:=some 18,op:=Op.load 26 (Operand.tmp 2),type := 26,pos := "check.go:77",after:=#[],guard:=none }
abbrev opG61 : Oper := { dst:=some 19,op:=Op.move (Operand.tmp 1),type := 3,pos := "check.go:77",after:=#[],guard:=none }
abbrev opG62 : Oper := { dst:=some 20,op:=Op.call { callee:=Callee.value (Operand.func 16),args:=#[Operand.tmp 18,Operand.tmp 19],argTypes:=#[26,3] },type := 3,pos := "check.go:77",after:=#[{ on := 0,ground:=Ground.data }, { on := 1,ground:=Ground.data }],guard:=none }
abbrev opG63 : Oper := { dst:=some 21,op:=Op.binOp BinOp.neq 3 (Operand.tmp 20) (Operand.const (Value.int IntKind.i64 2)) 3,type := 4,pos := "check.go:77",after:=#[{ on := 2,ground:=Ground.data }],guard:=none }
abbrev opG64 : Oper := { dst:=some 22,op:=Op.move (Operand.tmp 21),type := 4,pos := "check.go:77",after:=#[{ on := 3,ground:=Ground.data }, { on := 2,ground:=Ground.chain }],guard:=none }
abbrev opG65 : Oper := { dst:=some 23,op:=Op.load 26 (Operand.tmp 2),type := 26,pos := "check.go:77",after:=#[{ on := 4,ground:=Ground.guard }],guard:=some (4,false) }
abbrev opG66 : Oper := { dst:=some 24,op:=Op.move (Operand.tmp 1),type := 3,pos := "check.go:77",after:=#[{ on := 4,ground:=Ground.guard }],guard:=some (4,false) }
abbrev opG67 : Oper := { dst:=some 25,op:=Op.load 26 (Operand.tmp 2),type := 26,pos := "check.go:77",after:=#[{ on := 4,ground:=Ground.guard }],guard:=some (4,false) }
abbrev opG68 : Oper := { dst:=some 26,op:=Op.call { callee:=Callee.value (Operand.func 38),args:=#[Operand.tmp 25],argTypes:=#[26] },type := 61,pos := "check.go:77",after:=#[{ on := 7,ground:=Ground.data }, { on := 4,ground:=Ground.chain }, { on := 4,ground:=Ground.guard }],guard:=some (4,false) }
abbrev opG69 : Oper := { dst:=some 27,op:=Op.call { callee:=Callee.value (Operand.func 162),args:=#[Operand.tmp 23,Operand.tmp 24,Operand.tmp 26],argTypes:=#[26,3,61] },type := 4,pos := "check.go:77",after:=#[{ on := 5,ground:=Ground.data }, { on := 6,ground:=Ground.data }, { on := 8,ground:=Ground.data }, { on := 8,ground:=Ground.chain }, { on := 4,ground:=Ground.guard }],guard:=some (4,false) }
abbrev opG610 : Oper := { dst:=some 28,op:=Op.unOp UnOp.not 4 (Operand.tmp 27),type := 4,pos := "check.go:77",after:=#[{ on := 9,ground:=Ground.data }, { on := 4,ground:=Ground.guard }],guard:=some (4,false) }
abbrev opG611 : Oper := { dst:=some 29,op:=Op.pick (Operand.tmp 22) (Operand.const (Value.bool true)) (Operand.tmp 28),type := 4,pos := "check.go:77",after:=#[{ on := 4,ground:=Ground.data }, { on := 10,ground:=Ground.data }],guard:=none }
abbrev opG612 : Oper := { dst:=some 4,op:=Op.assign (Operand.tmp 29),type := 4,pos := "check.go:77",after:=#[{ on := 11,ground:=Ground.data }, { on := 9,ground:=Ground.chain }, { on := 0,ground:=Ground.phase }, { on := 1,ground:=Ground.phase }, { on := 2,ground:=Ground.phase }, { on := 3,ground:=Ground.phase }, { on := 4,ground:=Ground.phase }, { on := 5,ground:=Ground.phase }, { on := 6,ground:=Ground.phase }, { on := 7,ground:=Ground.phase }, { on := 8,ground:=Ground.phase }, { on := 9,ground:=Ground.phase }, { on := 10,ground:=Ground.phase }, { on := 11,ground:=Ground.phase }],guard:=none }

set_option maxHeartbeats 1000000 in
theorem hasFaces1_any {g : Img} {gb : Nat} {f : Int} {w : World} (hG : GB w gb g) (hi : imB g = true) :
  Calls Tryz.prog 159 #[.int .i64 f,.pointer (some ⟨gb,0,none⟩)] w fun e w' => e = .returned (.bool (!decide (kndI g f = 2)))∧Below w.heap.size w w':=by
 have HKd : Hid (Calls Tryz.prog 16 #[.agg (imC g),.int .i64 f] w fun e w' => e = .returned (.int .i64 (kndI g f))∧Below w.heap.size w w'):=kind_any f hG.im (FlOk.of hi)
 obtain ⟨c0,c1,c2,c3⟩:=hG.cells
 unfold imC at HKd
 clear hG hi
 generalize kndI g f = k at *
 have HR : Hid ((k != 2) = !decide (k = 2)):=by show _ = _; rw [Bool.eq_iff_iff]; simp
 go_enter Tryz.func159,Tryz.ntmps159
 go_wp2_with fail
 refine Calls.mono HKd.out ?_
 rintro e w1 ⟨rfl,hb1⟩
 have HB1 : Hid (Below w.heap.size w w1):=hb1
 clear hb1 c0 c1 c2 c3
 go_wp2_with fail
 go_ret
 exact ⟨ret_bool (by rw [← HR.out]; try simp [bne]),HB1.out⟩
theorem hasFaces2_any {a b : Int} {w : World} :
  Calls Tryz.prog 161 #[.int .i64 a,.int .i64 b] w fun e w' => e = .returned (.bool (a != b))∧w' = w:=by
 go_enter Tryz.func161,Tryz.ntmps161
 go_wp2
 go_ret
 exact ⟨ret_bool (by try simp [bne]),rfl⟩

set_option maxHeartbeats 8000000 in
set_option maxRecDepth 20000 in
theorem fac11_any {g : Img} {q : Nat} {w : World} (hg : Im w g) (hi : imB g = true) (hq : q < g.ts.length) :
  Calls Tryz.prog 110 #[imV g,.int .i64 q] w fun e w' => e = .returned (.bool (facB g (q : Int)))∧Below w.heap.size w w':=by
 obtain ⟨w0,hw0⟩ : ∃ W,W = w.alloc (.cells (imC g) 26):=⟨_,rfl⟩
 have HW0 : Hid (w0 = _):=hw0
 obtain ⟨hb0,hgb⟩:=GB.made hg hw0
 have HB0 : Hid (Below w.heap.size w w0):=hb0
 have HG : Hid (GB w0 w.heap.size g):=hgb
 have hln:=im_len hi
 obtain ⟨tb,off,hta,h8,h9,hty⟩:=hgb.ty (by intro e; rw [e] at hq; simp at hq)
 have HFa : Hid (facB g (q : Int) = (fcB g g.ts[q].fs && (decide (kndI g (q : Int) ≠ 2) || !(reachL g.ts.length (fsI g) (fsI g (q : Int))).contains (q : Int)))):=facB_eq hq
 have HFI : Hid (∀ W,Below w0.heap.size w0 W → Is W (.slice g.ts[q].fa g.ts[q].fs.length g.ts[q].fc) g.ts[q].fs):=fun W hW => (hgb.im.later hW).tok _ (List.getElem_mem hq) |>.toIs
 have HC4 : Hid (∀ W,Below w0.heap.size w0 W → W.cell? ⟨w.heap.size,0,none⟩ = some (.slice (some ⟨tb,off,none⟩) g.ts.length g.tc)∧W.cell? ⟨w.heap.size,1,none⟩ = some (.slice g.fa g.fs.length g.fc)∧W.cell? ⟨w.heap.size,2,none⟩ = some (.slice g.ma g.ms.length g.mc)∧W.cell? ⟨w.heap.size,3,none⟩ = some (.int .i64 g.en)):=fun W hW => by
  have:=(HG.out.later hW).cells
  rw [hta] at this
  exact this
 have HKd : Hid (∀ W,Below w0.heap.size w0 W → Calls Tryz.prog 16 #[.agg (imC g),.int .i64 q] W fun e w' => e = .returned (.int .i64 (kndI g (q : Int)))∧Below W.heap.size W w'):=fun W hW => kind_any (q : Int) (HG.out.im.later hW) (FlOk.of hi)
 have HBF : Hid (∀ W,Calls Tryz.prog 38 #[.agg (imC g)] W fun e w' => e = .returned (.func (.func 72) #[] #[.pointer (some ⟨W.heap.size,0,none⟩)])∧w' = W.alloc (.cells (imC g) 26)):=fun W => byFaces_any W
 have HCB : Hid (∀ W,Below w0.heap.size w0 W → Calls Tryz.prog 162 #[.agg (imC g),.int .i64 q,.func (.func 72) #[] #[.pointer (some ⟨W.heap.size,0,none⟩)]] (W.alloc (.cells (imC g) 26)) fun e w' => e = .returned (.bool ((reachL g.ts.length (fsI g) (fsI g (q : Int))).contains (q : Int)))∧Below W.heap.size W w'):=fun W hW => by
  have hG:=GB.made (HG.out.im.later hW) (rfl : W.alloc (.cells (imC g) 26) = _)
  refine (comesBack_any hG.2.im hi hq (steps_fac hG.2 hi)).mono ?_
  rintro e w' ⟨rfl,hb⟩
  exact ⟨rfl,bstep hG.1 hb⟩
 have HAny : Hid (∀ W,Below w0.heap.size w0 W → Calls Tryz.prog 158 #[.slice g.ts[q].fa g.ts[q].fs.length g.ts[q].fc,.func (.func 159) #[] #[.pointer (some ⟨w.heap.size,0,none⟩)]] W fun e w' => e = .returned (.bool (!(g.ts[q].fs.all fun f => decide (kndI g f = 2))))∧Below W.heap.size W w'):=fun W hW => by
  have:=containsN10_any (HFI.out W hW).toEs (f := 159) (bs:=#[]) (cs:=#[.pointer (some ⟨w.heap.size,0,none⟩)]) (p:=fun f => !decide (kndI g f = 2)) ⟨run_enter9 Tryz.func159 (by kernel_rfl) rfl,fun W2 hW2 x hx => by
   have:=hasFaces1_any (f:=x) (HG.out.later (bstep hW hW2)) hi
   simpa [intV] using this⟩
  rw [all_not_any] at this
  exact this
 have HDf : Hid (∀ W,Below w0.heap.size w0 W → Calls Tryz.prog 160 #[.slice g.ts[q].fa g.ts[q].fs.length g.ts[q].fc,.func (.func 161) #[] #[]] W fun e w' => e = .returned (.bool (difB (fun a b => a != b) g.ts[q].fs))∧Below W.heap.size W w'):=fun W hW =>
  differ_any (HFI.out W hW) ⟨run_enter9 Tryz.func161 (by kernel_rfl) rfl,fun W2 hW2 x hx y hy => by
   refine (show Calls Tryz.prog 161 _ W2 _ by simpa using hasFaces2_any (a:=x) (b:=y) (w:=W2)).mono ?_
   rintro e w' ⟨rfl,rfl⟩
   exact ⟨rfl,Below.refl _ _⟩⟩
 obtain ⟨c0,c1,c2,c3⟩:=HC4.out w0 (Below.refl _ _)
 obtain ⟨_,_,_,k3⟩:=(hty w0 (Below.refl _ _)).2 q hq
 have hqi : (q : Int) < (g.ts.length : Int):=by omega
 unfold maxLen at h9
 unfold imC at HW0 HKd HBF HCB
 rw [hta] at HW0 HKd HBF HCB
 have HFb : Hid (facB g (q : Int) = ((g.ts[q].fs.all fun f => decide (kndI g f = 2)) && difB (fun a b => a != b) g.ts[q].fs && (decide (kndI g (q : Int) ≠ 2) || !(reachL g.ts.length (fsI g) (fsI g (q : Int))).contains (q : Int)))):=HFa.out
 clear hw0 hb0 hgb hty hi hg HFa HFI HG
 unfold imV
 rw [hta]
 clear hta
 generalize (g.ts[q].fs.all fun f => decide (kndI g f = 2)) = b1 at *
 generalize difB (fun a b => a != b) g.ts[q].fs = b2 at *
 generalize (reachL g.ts.length (fsI g) (fsI g (q : Int))).contains (q : Int) = r at *
 generalize facB g (q : Int) = F at *
 generalize kndI g (q : Int) = k at *
 generalize g.ts[q] = x at *
 go_enter Tryz.func110,Tryz.ntmps110
 go_wp2_with (rw [← HW0.out])
 refine Calls.mono (HAny.out w0 (Below.refl _ _)) ?_
 rintro e w1 ⟨rfl,hb1⟩
 have HB1 : Hid (Below w0.heap.size w0 w1):=hb1
 clear hb1 c0 c1 c2 c3 k3
 cases b1 with
 | false =>
  have HR : Hid (F = false):=by show _ = _; rw [HFb.out]; rfl
  go_wp2_with fail
  go_ret
  exact ⟨ret_bool HR.out.symm,bstep HB0.out HB1.out⟩
 | true =>
 go_wp2_with fail
 refine Calls.mono (HDf.out w1 HB1.out) ?_
 rintro e wx ⟨rfl,hbx⟩
 have HBx : Hid (Below w0.heap.size w0 wx):=bstep HB1.out hbx
 clear hbx
 cases b2 with
 | false =>
  have HR : Hid (F = false):=by show _ = _; rw [HFb.out]; rfl
  go_wp2_with fail
  go_ret
  exact ⟨ret_bool HR.out.symm,bstep HB0.out HBx.out⟩
 | true =>
 have HR : Hid (F = (decide (k ≠ 2) || !r)):=by show _ = _; rw [HFb.out]; rfl
 have HK : Hid (∀ W,Below wx.heap.size wx W → W.cell? ⟨w.heap.size,0,none⟩ = some (.slice (some ⟨tb,off,none⟩) g.ts.length g.tc)∧W.cell? ⟨w.heap.size,1,none⟩ = some (.slice g.fa g.fs.length g.fc)∧W.cell? ⟨w.heap.size,2,none⟩ = some (.slice g.ma g.ms.length g.mc)∧W.cell? ⟨w.heap.size,3,none⟩ = some (.int .i64 g.en)):=fun W hW => HC4.out W (bstep HBx.out hW)
 clear HFb HAny HDf HC4
 obtain ⟨c0,c1,c2,c3⟩:=HK.out wx (Below.refl _ _)
 go_wp2_with fail
 by_cases hk : k = 2
 ·subst hk
  have HR2 : Hid (F = !r):=by show _ = _; rw [HR.out]; simp
  go_region_held3 (fun W : World => W.cell? ⟨w.heap.size,0,none⟩ = some (.slice (some ⟨tb,off,none⟩) g.ts.length g.tc)∧W.cell? ⟨w.heap.size,1,none⟩ = some (.slice g.fa g.fs.length g.fc)∧W.cell? ⟨w.heap.size,2,none⟩ = some (.slice g.ma g.ms.length g.mc)∧W.cell? ⟨w.heap.size,3,none⟩ = some (.int .i64 g.en))
   (first | (exact HK.out _ hB3) | (exact HK.out _ (bbox hB1 _)) | (exact HK.out _ hB1) | (exact HK.out _ (bdrew _)))
   (first | (go_at_call 16; refine (HKd.out _ (bstep HBx.out (bdrew _))).mono ?_; rintro e w2 ⟨rfl,hz1⟩; have hB1 : Below wx.heap.size wx w2:=bstep (bdrew _) hz1) | (go_at_call 38; refine (HBF.out _).mono ?_; rintro e wz ⟨rfl,hz2⟩; subst hz2) | (go_at_call 162; refine (HCB.out _ (bstep HBx.out hB1)).mono ?_; rintro e w3 ⟨rfl,hz3⟩; have hB3 : Below wx.heap.size wx w3:=bstep hB1 hz3))
  rename_i hheld
  clear hheld
  have HBe : Hid (Below w0.heap.size w0 w3):=bstep HBx.out hB3
  clear hz1 hz3 hB1 hB3 c0 c1 c2 c3
  go_wp2_with fail
  go_ret
  exact ⟨ret_bool HR2.out.symm,bstep HB0.out HBe.out⟩
 ·have HR2 : Hid (F = true):=by show _ = _; rw [HR.out,decide_eq_true hk]; rfl
  have hkb : (k != 2) = true:=by rw [bne_iff_ne]; exact hk
  have hkd : decide (k = 2) = false:=decide_eq_false hk
  refine wp_region_held_drew (S:=(fun W : World => W.cell? ⟨w.heap.size,0,none⟩ = some (.slice (some ⟨tb,off,none⟩) g.ts.length g.tc)∧W.cell? ⟨w.heap.size,1,none⟩ = some (.slice g.fa g.fs.length g.fc)∧W.cell? ⟨w.heap.size,2,none⟩ = some (.slice g.ma g.ms.length g.mc)∧W.cell? ⟨w.heap.size,3,none⟩ = some (.int .i64 g.en))) (by kernel_rfl) (HK.out _ (bdrew _)) (fun hHeld => ?_)
  refine tY 0 opG60 (.agg #[.slice (some ⟨tb,off,none⟩) g.ts.length g.tc,.slice g.fa g.fs.length g.fc,.slice g.ma g.ms.length g.mc,.int .i64 g.en]) hHeld ?_
  refine tY 1 opG61 (.int .i64 q) hHeld ?_
  refine wpAnyH_ready (rs := [2]) (by kernel_rfl) (by simp) ?_
  refine AllReadyH.cons (o:=opG62) rfl (fun K hK => ?_) AllReadyH.nil
  go_simp
  refine (HKd.out _ (bstep HBx.out (bdrew _))).mono ?_
  rintro e w2 ⟨rfl,hb2⟩
  have hBc : Below wx.heap.size wx w2:=bstep (bdrew _) hb2
  try go_wp2_with fail
  refine hK.out _ _ (HK.out _ hBc) (fun hHeld => ?_)
  clear hK K
  try simp only [Act.put,List.setIfInBounds_toArray,List.set_cons_zero,List.set_cons_succ]
  refine tY 3 opG63 (.bool true) hHeld ?_
  refine tY 4 opG64 (.bool true) hHeld ?_
  refine tN 5 opG65 hHeld ?_
  refine tN 6 opG66 hHeld ?_
  refine tN 7 opG67 hHeld ?_
  refine tN 8 opG68 hHeld ?_
  refine tN 9 opG69 hHeld ?_
  refine tN 10 opG610 hHeld ?_
  refine tY 11 opG611 (.bool true) hHeld ?_
  refine tY 12 opG612 (.bool true) hHeld ?_
  refine wpAnyH_done (by kernel_rfl) ?_ _
  have HBe : Hid (Below w0.heap.size w0 w2):=bstep HBx.out hBc
  clear hBc hb2
  go_wp2_with fail
  go_ret
  exact ⟨ret_bool HR2.out.symm,bstep HB0.out HBe.out⟩
end Go.Proofs.YthpmpdpfnlecmaaGreat
