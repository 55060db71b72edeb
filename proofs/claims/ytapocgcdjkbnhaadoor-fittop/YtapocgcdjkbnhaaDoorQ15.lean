/- Texts joined: RefHangs11. -/
import Derived.Test.YtapocgcdjkbnhaaDoorQ13
import Derived.Test.YtapocgcdjkbnhaaDoorQ14
import Derived.Test.YtapocgcdjkbnhaaDoorQ10
namespace Go.Proofs.YtapocgcdjkbnhaaDoor
set_option linter.unusedVariables false
set_option linter.unusedSimpArgs false
open Go.RowKit
attribute [local go_sem ↓] Go.wp_at_zero Go.wp_at_succ
abbrev opH0 : Oper := { dst:=some 57,op:=Op.load 26 (Operand.tmp 2),type := 26,pos := "ref.go:152",after:=#[],guard:=none }
abbrev opH1 : Oper := { dst:=some 58,op:=Op.move (Operand.tmp 7),type := 40,pos := "ref.go:152",after:=#[],guard:=none }
abbrev opH2 : Oper := { dst:=some 59,op:=Op.move (Operand.tmp 8),type := 3,pos := "ref.go:152",after:=#[],guard:=none }
abbrev opH3 : Oper := { dst:=some 60,op:=Op.indexAddr 40 (Operand.tmp 58) (Operand.tmp 59),type := 0,pos := "ref.go:152",after:=#[{ on := 1,ground:=Ground.data }, { on := 2,ground:=Ground.data }],guard:=none }
abbrev opH4 : Oper := { dst:=some 61,op:=Op.load 3 (Operand.tmp 60),type := 3,pos := "ref.go:152",after:=#[{ on := 3,ground:=Ground.data }],guard:=none }
abbrev opH5 : Oper := { dst:=some 62,op:=Op.call { callee:=Callee.value (Operand.func 14),args:=#[Operand.tmp 57,Operand.tmp 61],argTypes:=#[26,3] },type := 3,pos := "ref.go:152",after:=#[{ on := 0,ground:=Ground.data }, { on := 4,ground:=Ground.data }],guard:=none }
abbrev opH6 : Oper := { dst:=some 63,op:=Op.binOp BinOp.neq 3 (Operand.tmp 62) (Operand.const (Value.int IntKind.i64 2)) 3,type := 4,pos := "ref.go:152",after:=#[{ on := 5,ground:=Ground.data }],guard:=none }
abbrev opH7 : Oper := { dst:=some 64,op:=Op.move (Operand.tmp 63),type := 4,pos := "ref.go:152",after:=#[{ on := 6,ground:=Ground.data }, { on := 5,ground:=Ground.chain }],guard:=none }
abbrev opH8 : Oper := { dst:=some 65,op:=Op.move (Operand.tmp 7),type := 40,pos := "ref.go:152",after:=#[{ on := 7,ground:=Ground.guard }],guard:=some (7,false) }
abbrev opH9 : Oper := { dst:=some 66,op:=Op.move (Operand.tmp 8),type := 3,pos := "ref.go:152",after:=#[{ on := 7,ground:=Ground.guard }],guard:=some (7,false) }
abbrev opH10 : Oper := { dst:=some 67,op:=Op.slice 40 (Operand.tmp 65) none (some (Operand.tmp 66)) none,type := 40,pos := "ref.go:152",after:=#[{ on := 8,ground:=Ground.data }, { on := 9,ground:=Ground.data }, { on := 7,ground:=Ground.guard }],guard:=some (7,false) }
abbrev opH11 : Oper := { dst:=some 68,op:=Op.move (Operand.tmp 7),type := 40,pos := "ref.go:152",after:=#[{ on := 7,ground:=Ground.guard }],guard:=some (7,false) }
abbrev opH12 : Oper := { dst:=some 69,op:=Op.move (Operand.tmp 8),type := 3,pos := "ref.go:152",after:=#[{ on := 7,ground:=Ground.guard }],guard:=some (7,false) }
abbrev opH13 : Oper := { dst:=some 70,op:=Op.indexAddr 40 (Operand.tmp 68) (Operand.tmp 69),type := 0,pos := "ref.go:152",after:=#[{ on := 11,ground:=Ground.data }, { on := 12,ground:=Ground.data }, { on := 7,ground:=Ground.guard }],guard:=some (7,false) }
abbrev opH14 : Oper := { dst:=some 71,op:=Op.load 3 (Operand.tmp 70),type := 3,pos := "ref.go:152",after:=#[{ on := 13,ground:=Ground.data }, { on := 7,ground:=Ground.guard }],guard:=some (7,false) }
abbrev opH15 : Oper := { dst:=some 72,op:=Op.call { callee:=Callee.value (Operand.func 36),args:=#[Operand.tmp 67,Operand.tmp 71],argTypes:=#[40,3] },type := 4,pos := "ref.go:152",after:=#[{ on := 10,ground:=Ground.data }, { on := 14,ground:=Ground.data }, { on := 7,ground:=Ground.chain }, { on := 7,ground:=Ground.guard }],guard:=some (7,false) }
abbrev opH16 : Oper := { dst:=some 73,op:=Op.pick (Operand.tmp 64) (Operand.const (Value.bool true)) (Operand.tmp 72),type := 4,pos := "ref.go:152",after:=#[{ on := 7,ground:=Ground.data }, { on := 15,ground:=Ground.data }],guard:=none }

def FcOk (g : Img) (l : List Int) (i : Nat) : Prop := ∀ k (h : k < l.length),k < i → kndI g l[k] = 2∧(l.take k).contains l[k] = false
theorem FcOk.zero (g : Img) (l : List Int) : FcOk g l 0:=fun k h hk => absurd hk (by omega)
theorem FcOk.step {g : Img} {l : List Int} {i : Nat} (h : FcOk g l i) (hi : i < l.length) (h1 : kndI g l[i] = 2) (h2 : (l.take i).contains l[i] = false) : FcOk g l (i + 1):=fun k hk hlt => by
 by_cases e : k = i
 ·subst e; exact ⟨h1,h2⟩
 ·exact h k hk (by omega)
def fcB (g : Img) (l : List Int) : Bool:=l.all (fun f => decide (kndI g f = 2)) && difB (fun a b => a != b) l
theorem dif_has (l : List Int) (x : Int) : l.all (fun b => x != b) = !l.contains x:=by
 induction l with
 | nil => rfl
 | cons a r ih =>
  rw [List.all_cons,ih,List.contains_cons,Bool.not_or]
  rfl
theorem fcB_iff {g : Img} {l : List Int} : fcB g l = true ↔ FcOk g l l.length:=by
 unfold fcB
 rw [Bool.and_eq_true,List.all_eq_true,difB_iff]
 constructor
 ·rintro ⟨h1,h2⟩ k hk _
  refine ⟨by simpa using h1 _ (List.getElem_mem hk), ?_⟩
  have:=h2 k hk
  rw [dif_has] at this
  simpa using this
 ·intro h
  refine ⟨fun x hx => ?_,fun i hi => ?_⟩
  ·obtain ⟨k,hk,rfl⟩:=List.mem_iff_getElem.1 hx
   simpa using (h k hk hk).1
  ·rw [dif_has,(h i hi hi).2]; rfl
theorem facB_eq {g : Img} {q : Nat} (hq : q < g.ts.length) : facB g (q : Int) = (fcB g g.ts[q].fs && (decide (kndI g (q : Int) ≠ 2) || !(reachL g.ts.length (fsI g) (fsI g (q : Int))).contains (q : Int))):=by
 unfold facB fcB
 rw [fsI_at hq]
theorem fcOk_no1 {g : Img} {l : List Int} {i : Nat} {b : Bool} (hi : i < l.length) (h : kndI g l[i] ≠ 2) : (fcB g l && b) = false:=by
 cases hc : fcB g l with
 | false => rfl
 | true => exact absurd ((fcB_iff.1 hc) i hi hi).1 h
theorem fcOk_no2 {g : Img} {l : List Int} {i : Nat} {b : Bool} (hi : i < l.length) (h : (l.take i).contains l[i] = true) : (fcB g l && b) = false:=by
 cases hc : fcB g l with
 | false => rfl
 | true => have:=((fcB_iff.1 hc) i hi hi).2; rw [h] at this; cases this
theorem fcOk_all {g : Img} {l : List Int} {i : Nat} {b : Bool} (hi : l.length ≤ i) (h : FcOk g l i) : (fcB g l && b) = b:=by
 rw [fcB_iff.2 (fun k hk _ => h k hk (by omega))]; rfl
theorem upL_one {g : Img} {q : Nat} (hq : q < g.ts.length) (he : g.ts[q].ex = -1) : upL g (q : Int) = [(q : Int)]:=by
 unfold upL
 rw [upG,if_pos ⟨by rw [numB_iff]; omega,by simp⟩,exI_at hq,he,upG,if_neg (by simp [numB])]
 rfl
theorem extB_none {g : Img} {q : Nat} (hq : q < g.ts.length) (he : g.ts[q].ex = -1) : extB g (q : Int) = true:=by
 unfold extB
 rw [upL_one hq he,exI_at hq,he]
 simp [exI_at hq,he]
theorem extB_some {g : Img} {q : Nat} (hq : q < g.ts.length) (he : g.ts[q].ex ≠ -1) : extB g (q : Int) = ((decide (kndI g g.ts[q].ex = 0) && !bitB (flI g g.ts[q].ex) 8) && (match (upL g (q : Int)).getLast? with | some u => decide (exI g u = -1) | none => true)):=by
 unfold extB
 rw [exI_at hq,decide_eq_false he]; rfl
theorem fac_one {g : Img} {q : Nat} (hq : q < g.ts.length) (he : g.ts[q].ex = -1) : facL g (q : Int) = reachL g.ts.length (fsI g) (fsI g (q : Int)):=by
 unfold facL
 rw [upL_one hq he]; simp
theorem flag_face {f e : Int} (h : flgF f e = true) (hk : kindF f = 2) : e = -1:=by
 unfold flgF at h
 rw [if_pos hk,Bool.and_eq_true] at h
 simpa using h.1

set_option maxHeartbeats 16000000 in
set_option maxRecDepth 100000 in
theorem refHangs_any {g : Img} {q : Nat} {w : World} (hg : Im w g) (hi : imB g = true) (hq : q < g.ts.length) (hfl : flgF g.ts[q].fl g.ts[q].ex = true) :
  Calls Tryd.prog 24 #[imV g,.int .i64 q] w fun e w' => e = .returned (.bool (extB g (q : Int) && facB g (q : Int)))∧Below w.heap.size w w':=by
 obtain ⟨w0,hw0⟩ : ∃ W,W = w.alloc (.cells (imC g) 26):=⟨_,rfl⟩
 have HW0 : Hid (w0 = _):=hw0
 obtain ⟨hb0,hgb⟩:=GB.made hg hw0
 have HB0 : Hid (Below w.heap.size w w0):=hb0
 have HG : Hid (GB w0 w.heap.size g):=hgb
 have HI : Hid (imB g = true):=hi
 have HF2 : Hid (kndI g (q : Int) = 2 → outL (facL g (q : Int)) g.ts.length = outL (reachL g.ts.length (fsI g) (fsI g (q : Int))) g.ts.length):=fun h => by rw [fac_one hq (flag_face hfl (by rw [← knd_at hq]; exact h))]
 obtain ⟨tb,off,hta,h8,h9,hty⟩:=hgb.ty (by intro e; rw [e] at hq; simp at hq)
 have HTA : Hid (g.ta = some ⟨tb,off,none⟩):=hta
 have HKd : Hid (∀ W (t : Int),Below w0.heap.size w0 W → Calls Tryd.prog 14 #[.agg #[.slice (some ⟨tb,off,none⟩) g.ts.length g.tc,.slice g.fa g.fs.length g.fc,.slice g.ma g.ms.length g.mc,.int .i64 g.en],.int .i64 t] W fun e w' => e = .returned (.int .i64 (kndI g t))∧Below W.heap.size W w'):=by
  intro W t hW
  have:=refKind_any t (HG.out.im.later hW) (FlOk.of HI.out)
  unfold imV at this
  rw [HTA.out] at this
  exact this
 have HUp : Hid (∀ W,Below w0.heap.size w0 W → Calls Tryd.prog 35 #[.agg #[.slice (some ⟨tb,off,none⟩) g.ts.length g.tc,.slice g.fa g.fs.length g.fc,.slice g.ma g.ms.length g.mc,.int .i64 g.en],.int .i64 q] W fun e w' => ∃ v,e = .returned v∧OwnI w' W.heap.size v (upL g (q : Int))∧Below W.heap.size W w'):=by
  intro W hW
  have:=refUp_any (t:=(q : Int)) (HG.out.im.later hW) HI.out
  unfold imV at this
  rw [HTA.out] at this
  exact this
 have HFs : Hid (∀ W,Below w0.heap.size w0 W → Calls Tryd.prog 37 #[.agg #[.slice (some ⟨tb,off,none⟩) g.ts.length g.tc,.slice g.fa g.fs.length g.fc,.slice g.ma g.ms.length g.mc,.int .i64 g.en],.int .i64 q] W fun e w' => ∃ v,e = .returned v∧OwnI w' W.heap.size v (outL (facL g (q : Int)) g.ts.length)∧Below W.heap.size W w'):=by
  intro W hW
  have:=refFaces_any (t:=(q : Int)) (HG.out.im.later hW) HI.out
  unfold imV at this
  rw [HTA.out] at this
  exact this
 have HC4 : Hid (∀ W,Below w0.heap.size w0 W → W.cell? ⟨w.heap.size,0,none⟩ = some (.slice (some ⟨tb,off,none⟩) g.ts.length g.tc)∧W.cell? ⟨w.heap.size,1,none⟩ = some (.slice g.fa g.fs.length g.fc)∧W.cell? ⟨w.heap.size,2,none⟩ = some (.slice g.ma g.ms.length g.mc)∧W.cell? ⟨w.heap.size,3,none⟩ = some (.int .i64 g.en)):=fun W hW => by
  have:=(HG.out.later hW).cells
  rw [HTA.out] at this
  exact this
 have HTY : Hid (∀ W,Below w0.heap.size w0 W → ∀ k (hk : k < g.ts.length),W.cell? ⟨tb,off + k * 4 + 1,none⟩ = some (.int .i64 g.ts[k].fl)∧W.cell? ⟨tb,off + k * 4 + 2,none⟩ = some (.int .i64 g.ts[k].ex)∧W.cell? ⟨tb,off + k * 4 + 3,none⟩ = some (.slice g.ts[k].fa g.ts[k].fs.length g.ts[k].fc)):=fun W hW k hk => ((hty W hW).2 k hk).2
 have HFI : Hid (∀ W,Below w0.heap.size w0 W → Is W (.slice g.ts[q].fa g.ts[q].fs.length g.ts[q].fc) g.ts[q].fs):=fun W hW => Sl.later (hgb.im.tok _ (List.getElem_mem hq)).toIs hW
 have hexq:=(im_type hi hq).1
 have HE0 : Hid (g.ts[q].ex = -1 → extB g (q : Int) = true):=extB_none hq
 have HE1 : Hid (g.ts[q].ex ≠ -1 → extB g (q : Int) = ((decide (kndI g g.ts[q].ex = 0) && !bitB (flI g g.ts[q].ex) 8) && (match (upL g (q : Int)).getLast? with | some u => decide (exI g u = -1) | none => true))):=extB_some hq
 obtain ⟨_,d1,d2,d3⟩:=(hty w0 (Below.refl _ _)).2 q hq
 obtain ⟨c0,c1,c2,c3⟩:=HC4.out w0 (Below.refl _ _)
 have HD3 : Hid (∀ W,Below w0.heap.size w0 W → W.cell? ⟨tb,off + q * 4 + 3,none⟩ = some (.slice g.ts[q].fa g.ts[q].fs.length g.ts[q].fc)):=fun W hW => (HTY.out W hW q hq).2.2
 have hqi : (q : Int) < (g.ts.length : Int):=by omega
 have hfl4:=(im_type hi hq).2.1
 obtain ⟨x,hx⟩ : ∃ x,x = g.ts[q]:=⟨_,rfl⟩
 unfold imC at HW0
 rw [hta] at HW0
 unfold maxLen at h9
 have HFQ : Hid (facB g (q : Int) = (fcB g g.ts[q].fs && (decide (kndI g (q : Int) ≠ 2) || !(reachL g.ts.length (fsI g) (fsI g (q : Int))).contains (q : Int)))):=facB_eq hq
 rw [← hx] at HD3 HFQ d1 d2 d3 HFI hexq HE0 HE1 hfl4
 clear hw0 hb0 hgb hg hi hfl hty hta hx
 unfold imV
 rw [HTA.out]
 go_enter Tryd.func24,Tryd.ntmps24
 by_cases hex : x.ex = -1
 ·have HX : Hid (extB g (q : Int) = true):=HE0.out hex
  have hge : ¬ 0 ≤ x.ex:=by omega
  have HBs : Hid (Below w0.heap.size w0 w0):=Below.refl _ _
  clear HE0 HE1 hex hexq
  go_wp2_with (rw [← HW0.out])
  clear c0 c1 c2 c3 d1 d2 d3
  go_loopw [8] (fun z wr => ∃ i : Nat,i ≤ x.fs.length∧z = .int .i64 i∧Hid (Below w0.heap.size w0 wr)∧Hid (FcOk g x.fs i)) (fun z _ => x.fs.length - (intOf z).toNat)
  case atStart => exact ⟨0,Nat.zero_le _,rfl,HBs.out,FcOk.zero _ _⟩
  case round =>
   obtain ⟨i,hi2,rfl,HB,HF⟩:=hrel
   by_cases hil : i < x.fs.length
   ·have hii : (i : Int) < (x.fs.length : Int):=by omega
    obtain ⟨fb,foff,hfa,hfb,_,h6,h7,hc⟩:=(HFI.out wr HB.out).at hil
    have HCy : Hid (wr.cell? ⟨fb,foff + i,none⟩ = some (.int .i64 x.fs[i])):=hc i hil
    have HY : Hid (kndI g x.fs[i] = 2 → (x.fs.take i).contains x.fs[i] = false → FcOk g x.fs (i + 1)):=fun h1 h2 => HF.out.step hil h1 h2
    have HN1 : Hid (kndI g x.fs[i] ≠ 2 → facB g (q : Int) = false):=fun h => by rw [HFQ.out]; exact fcOk_no1 hil h
    have HN2 : Hid ((x.fs.take i).contains x.fs[i] = true → facB g (q : Int) = false):=fun h => by rw [HFQ.out]; exact fcOk_no2 hil h
    have HSl:=slice_toE (P:=Tryd.prog) (E:=intE) (show Es intE wr (.slice (some ⟨fb,foff,none⟩) x.fs.length x.fc) x.fs by have:=(HFI.out wr HB.out).toEs; rw [hfa] at this; exact this) i (by omega) 40 3 Tryd.underlying40 (by kernel_rfl)
    have hsl:=HSl.1
    have HHs : Hid (∀ W,Below wr.heap.size wr W → Calls Tryd.prog 36 #[.slice (some ⟨fb,foff,none⟩) i x.fc,.int .i64 x.fs[i]] W fun e w' => e = .returned (.bool ((x.fs.take i).contains x.fs[i]))∧w' = W):=fun W hW => refHas_any (HSl.2.later hW).toIs _
    have HKy : Hid (∀ W,Below wr.heap.size wr W → Calls Tryd.prog 14 #[.agg #[.slice (some ⟨tb,off,none⟩) g.ts.length g.tc,.slice g.fa g.fs.length g.fc,.slice g.ma g.ms.length g.mc,.int .i64 g.en],.int .i64 x.fs[i]] W fun e w' => e = .returned (.int .i64 (kndI g x.fs[i]))∧Below W.heap.size W w'):=fun W hW => HKd.out W _ (bstep HB.out hW)
    have HK : Hid (∀ W,Below wr.heap.size wr W → W.cell? ⟨w.heap.size,0,none⟩ = some (.slice (some ⟨tb,off,none⟩) g.ts.length g.tc)∧W.cell? ⟨w.heap.size,1,none⟩ = some (.slice g.fa g.fs.length g.fc)∧W.cell? ⟨w.heap.size,2,none⟩ = some (.slice g.ma g.ms.length g.mc)∧W.cell? ⟨w.heap.size,3,none⟩ = some (.int .i64 g.en)∧W.cell? ⟨fb,foff + i,none⟩ = some (.int .i64 x.fs[i])):=fun W hW => ⟨(HC4.out W (bstep HB.out hW)).1,(HC4.out W (bstep HB.out hW)).2.1,(HC4.out W (bstep HB.out hW)).2.2.1,(HC4.out W (bstep HB.out hW)).2.2.2,by rw [← HCy.out]; exact hW.cell (p:=⟨fb,foff + i,none⟩) hfb⟩
    rw [hfa]
    have HFA : Hid (x.fa = _):=hfa
    obtain ⟨hasv,hhv⟩ : ∃ b,b = (x.fs.take i).contains x.fs[i]:=⟨_,rfl⟩
    rw [← hhv] at HY HN2 HHs
    unfold maxLen at h7
    clear hc HSl hfa hhv HCy
    generalize x.fs[i] = y at *
    obtain ⟨kv,hkv⟩ : ∃ k,k = kndI g y:=⟨_,rfl⟩
    rw [← hkv] at HY HN1 HKy
    clear hkv
    obtain ⟨e0,e1,e2,e3,e4⟩:=HK.out wr (Below.refl _ _)
    go_wp2_with fail
    by_cases hk2 : kv = 2
    ·subst hk2
     cases hasv with
     | true =>
      have HBad : Hid (facB g (q : Int) = false):=HN2.out rfl
      clear HY HN1 HN2
      refine wp_region_held_drew (S:=(fun W : World => W.cell? ⟨w.heap.size,0,none⟩ = some (.slice (some ⟨tb,off,none⟩) g.ts.length g.tc)∧W.cell? ⟨w.heap.size,1,none⟩ = some (.slice g.fa g.fs.length g.fc)∧W.cell? ⟨w.heap.size,2,none⟩ = some (.slice g.ma g.ms.length g.mc)∧W.cell? ⟨w.heap.size,3,none⟩ = some (.int .i64 g.en)∧W.cell? ⟨fb,foff + i,none⟩ = some (.int .i64 y))) (by kernel_rfl) (HK.out _ (bdrew _)) (fun hHeld => ?_)
      refine tY 0 opH0 (.agg #[.slice (some ⟨tb,off,none⟩) g.ts.length g.tc,.slice g.fa g.fs.length g.fc,.slice g.ma g.ms.length g.mc,.int .i64 g.en]) hHeld ?_
      refine tY 1 opH1 (.slice (some ⟨fb,foff,none⟩) x.fs.length x.fc) hHeld ?_
      refine tY 2 opH2 (.int .i64 i) hHeld ?_
      refine tY 3 opH3 (.pointer (some ⟨fb,foff + i,none⟩)) hHeld ?_
      refine tY 4 opH4 (.int .i64 y) hHeld ?_
      refine wpAnyH_ready (rs := [5]) (by kernel_rfl) (by simp) ?_
      refine AllReadyH.cons (o:=opH5) rfl (fun K hK => ?_) AllReadyH.nil
      go_simp
      refine (HKy.out _ (bdrew _)).mono ?_
      rintro e w2 ⟨rfl,hb2⟩
      have hBc : Below wr.heap.size wr w2:=bstep (bdrew _) hb2
      try go_wp2_with fail
      refine hK.out _ _ (HK.out _ hBc) (fun hHeld => ?_)
      clear hK K
      try simp only [Act.put,sA,s0,sS]
      refine tY 6 opH6 (.bool false) hHeld ?_
      refine tY 7 opH7 (.bool false) hHeld ?_
      refine tY 8 opH8 (.slice (some ⟨fb,foff,none⟩) x.fs.length x.fc) hHeld ?_
      refine tY 9 opH9 (.int .i64 i) hHeld ?_
      refine tY 10 opH10 (.slice (some ⟨fb,foff,none⟩) i x.fc) hHeld ?_
      refine tY 11 opH11 (.slice (some ⟨fb,foff,none⟩) x.fs.length x.fc) hHeld ?_
      refine tY 12 opH12 (.int .i64 i) hHeld ?_
      refine tY 13 opH13 (.pointer (some ⟨fb,foff + i,none⟩)) hHeld ?_
      refine tY 14 opH14 (.int .i64 y) hHeld ?_
      refine wpAnyH_ready (rs := [15]) (by kernel_rfl) (by simp) ?_
      refine AllReadyH.cons (o:=opH15) rfl (fun K hK => ?_) AllReadyH.nil
      go_simp
      refine (HHs.out _ hBc).mono ?_
      rintro e wz ⟨rfl,hz⟩
      subst wz
      try go_wp2_with fail
      refine hK.out _ _ (HK.out _ hBc) (fun hHeld => ?_)
      clear hK K
      try simp only [Act.put,sA,s0,sS]
      refine tY 16 opH16 (.bool true) hHeld ?_
      refine wpAnyH_done (by kernel_rfl) ?_ _

      have HBe : Hid (Below w0.heap.size w0 w2):=bstep HB.out hBc
      clear hBc hb2
      go_wp2_with fail
      go_ret
      exact ⟨ret_bool (by rw [HBad.out]; simp),bstep HB0.out HBe.out⟩
     | false =>
      have HY2 : Hid (FcOk g x.fs (i + 1)):=HY.out rfl rfl
      clear HY HN1 HN2
      refine wp_region_held_drew (S:=(fun W : World => W.cell? ⟨w.heap.size,0,none⟩ = some (.slice (some ⟨tb,off,none⟩) g.ts.length g.tc)∧W.cell? ⟨w.heap.size,1,none⟩ = some (.slice g.fa g.fs.length g.fc)∧W.cell? ⟨w.heap.size,2,none⟩ = some (.slice g.ma g.ms.length g.mc)∧W.cell? ⟨w.heap.size,3,none⟩ = some (.int .i64 g.en)∧W.cell? ⟨fb,foff + i,none⟩ = some (.int .i64 y))) (by kernel_rfl) (HK.out _ (bdrew _)) (fun hHeld => ?_)
      refine tY 0 opH0 (.agg #[.slice (some ⟨tb,off,none⟩) g.ts.length g.tc,.slice g.fa g.fs.length g.fc,.slice g.ma g.ms.length g.mc,.int .i64 g.en]) hHeld ?_
      refine tY 1 opH1 (.slice (some ⟨fb,foff,none⟩) x.fs.length x.fc) hHeld ?_
      refine tY 2 opH2 (.int .i64 i) hHeld ?_
      refine tY 3 opH3 (.pointer (some ⟨fb,foff + i,none⟩)) hHeld ?_
      refine tY 4 opH4 (.int .i64 y) hHeld ?_
      refine wpAnyH_ready (rs := [5]) (by kernel_rfl) (by simp) ?_
      refine AllReadyH.cons (o:=opH5) rfl (fun K hK => ?_) AllReadyH.nil
      go_simp
      refine (HKy.out _ (bdrew _)).mono ?_
      rintro e w2 ⟨rfl,hb2⟩
      have hBc : Below wr.heap.size wr w2:=bstep (bdrew _) hb2
      try go_wp2_with fail
      refine hK.out _ _ (HK.out _ hBc) (fun hHeld => ?_)
      clear hK K
      try simp only [Act.put,sA,s0,sS]
      refine tY 6 opH6 (.bool false) hHeld ?_
      refine tY 7 opH7 (.bool false) hHeld ?_
      refine tY 8 opH8 (.slice (some ⟨fb,foff,none⟩) x.fs.length x.fc) hHeld ?_
      refine tY 9 opH9 (.int .i64 i) hHeld ?_
      refine tY 10 opH10 (.slice (some ⟨fb,foff,none⟩) i x.fc) hHeld ?_
      refine tY 11 opH11 (.slice (some ⟨fb,foff,none⟩) x.fs.length x.fc) hHeld ?_
      refine tY 12 opH12 (.int .i64 i) hHeld ?_
      refine tY 13 opH13 (.pointer (some ⟨fb,foff + i,none⟩)) hHeld ?_
      refine tY 14 opH14 (.int .i64 y) hHeld ?_
      refine wpAnyH_ready (rs := [15]) (by kernel_rfl) (by simp) ?_
      refine AllReadyH.cons (o:=opH15) rfl (fun K hK => ?_) AllReadyH.nil
      go_simp
      refine (HHs.out _ hBc).mono ?_
      rintro e wz ⟨rfl,hz⟩
      subst wz
      try go_wp2_with fail
      refine hK.out _ _ (HK.out _ hBc) (fun hHeld => ?_)
      clear hK K
      try simp only [Act.put,sA,s0,sS]
      refine tY 16 opH16 (.bool false) hHeld ?_
      refine wpAnyH_done (by kernel_rfl) ?_ _

      have HBe : Hid (Below w0.heap.size w0 w2):=bstep HB.out hBc
      clear hBc hb2 e0 e1 e2 e3 e4
      go_wp2_with fail
      go_roundw
      case rel => exact ⟨i + 1,by omega,by go_num,HBe.out,HY2.out⟩
      case measure => simp [intOf]; omega
    ·have hkb : (kv != 2) = true:=by simpa using hk2
     have HBad : Hid (facB g (q : Int) = false):=HN1.out hk2
     clear HY HN1 HN2
     refine wp_region_held_drew (S:=(fun W : World => W.cell? ⟨w.heap.size,0,none⟩ = some (.slice (some ⟨tb,off,none⟩) g.ts.length g.tc)∧W.cell? ⟨w.heap.size,1,none⟩ = some (.slice g.fa g.fs.length g.fc)∧W.cell? ⟨w.heap.size,2,none⟩ = some (.slice g.ma g.ms.length g.mc)∧W.cell? ⟨w.heap.size,3,none⟩ = some (.int .i64 g.en)∧W.cell? ⟨fb,foff + i,none⟩ = some (.int .i64 y))) (by kernel_rfl) (HK.out _ (bdrew _)) (fun hHeld => ?_)
     refine tY 0 opH0 (.agg #[.slice (some ⟨tb,off,none⟩) g.ts.length g.tc,.slice g.fa g.fs.length g.fc,.slice g.ma g.ms.length g.mc,.int .i64 g.en]) hHeld ?_
     refine tY 1 opH1 (.slice (some ⟨fb,foff,none⟩) x.fs.length x.fc) hHeld ?_
     refine tY 2 opH2 (.int .i64 i) hHeld ?_
     refine tY 3 opH3 (.pointer (some ⟨fb,foff + i,none⟩)) hHeld ?_
     refine tY 4 opH4 (.int .i64 y) hHeld ?_
     refine wpAnyH_ready (rs := [5]) (by kernel_rfl) (by simp) ?_
     refine AllReadyH.cons (o:=opH5) rfl (fun K hK => ?_) AllReadyH.nil
     go_simp
     refine (HKy.out _ (bdrew _)).mono ?_
     rintro e w2 ⟨rfl,hb2⟩
     have hBc : Below wr.heap.size wr w2:=bstep (bdrew _) hb2
     try go_wp2_with fail
     refine hK.out _ _ (HK.out _ hBc) (fun hHeld => ?_)
     clear hK K
     try simp only [Act.put,sA,s0,sS]
     refine tY 6 opH6 (.bool true) hHeld ?_
     refine tY 7 opH7 (.bool true) hHeld ?_
     refine tN 8 opH8 hHeld ?_
     refine tN 9 opH9 hHeld ?_
     refine tN 10 opH10 hHeld ?_
     refine tN 11 opH11 hHeld ?_
     refine tN 12 opH12 hHeld ?_
     refine tN 13 opH13 hHeld ?_
     refine tN 14 opH14 hHeld ?_
     refine tN 15 opH15 hHeld ?_
     refine tY 16 opH16 (.bool true) hHeld ?_
     refine wpAnyH_done (by kernel_rfl) ?_ _

     have HBe : Hid (Below w0.heap.size w0 w2):=bstep HB.out hBc
     clear hBc hb2
     go_wp2_with fail
     go_ret
     exact ⟨ret_bool (by rw [HBad.out]; simp),bstep HB0.out HBe.out⟩
   ·have hii : ¬ (i : Int) < (x.fs.length : Int):=by omega
    have HFE : Hid (facB g (q : Int) = (decide (kndI g (q : Int) ≠ 2) || !(reachL g.ts.length (fsI g) (fsI g (q : Int))).contains (q : Int))):=by show _ = _; rw [HFQ.out]; exact fcOk_all (by omega) HF.out
    obtain ⟨e0,e1,e2,e3⟩:=HC4.out wr HB.out
    go_wp2_with fail
    refine Calls.mono (HKd.out _ _ HB.out) ?_
    rintro e w4 ⟨rfl,hb4⟩
    have HB4 : Hid (Below w0.heap.size w0 w4):=bstep HB.out hb4
    clear hb4 e0 e1 e2 e3
    by_cases hk2 : kndI g (q : Int) = 2
    ·rw [hk2]
     have HFc : Hid (outL (facL g (q : Int)) g.ts.length = outL (reachL g.ts.length (fsI g) (fsI g (q : Int))) g.ts.length):=HF2.out hk2
     have HFE2 : Hid (facB g (q : Int) = !(reachL g.ts.length (fsI g) (fsI g (q : Int))).contains (q : Int)):=by show _ = _; rw [HFE.out,hk2]; simp
     clear hk2
     obtain ⟨e0,e1,e2,e3⟩:=HC4.out w4 HB4.out
     go_wp2_with fail
     refine Calls.mono (HFs.out w4 HB4.out) ?_
     rintro e w5 ⟨fv,rfl,hf,hb5⟩
     have HB5 : Hid (Below w0.heap.size w0 w5):=bstep HB4.out hb5
     have HHq : Hid (Calls Tryd.prog 36 #[fv,.int .i64 q] w5 fun e w' => e = .returned (.bool ((reachL g.ts.length (fsI g) (fsI g (q : Int))).contains (q : Int)))∧w' = w5):=by
      have:=refHas_any hf.is (q : Int)
      rwa [HFc.out,outL_has (reachL_nd _ _ _)] at this
     clear hf hb5 e0 e1 e2 e3
     generalize (reachL g.ts.length (fsI g) (fsI g (q : Int))).contains (q : Int) = r at *
     go_wp2_with fail
     refine Calls.mono HHq.out ?_
     rintro e wz ⟨rfl,hz⟩
     subst wz
     go_wp2_with fail
     go_ret
     exact ⟨ret_bool (by rw [HX.out,HFE2.out]; rfl),bstep HB0.out HB5.out⟩
    ·have hkb : (kndI g (q : Int) != 2) = true:=by simpa using hk2
     have HFE2 : Hid (facB g (q : Int) = true):=by show _ = _; rw [HFE.out,decide_eq_true hk2]; rfl
     clear hk2
     generalize kndI g (q : Int) = kq at *
     go_wp2_with fail
     go_ret
     exact ⟨ret_bool (by rw [HX.out,HFE2.out]; rfl),bstep HB0.out HB4.out⟩
 ·obtain ⟨j,hj,hjl⟩:=num_nat (hexq.resolve_left hex)
  have HE : Hid _:=HE1.out hex
  have hji : (j : Int) < (g.ts.length : Int):=by omega
  rw [hj] at HE d2
  clear HE0 HE1 hex hexq hj
  go_wp2_with (rw [← HW0.out])
  refine Calls.mono (HKd.out _ _ (Below.refl _ _)) ?_
  rintro e w1 ⟨rfl,hb1⟩
  have HB1 : Hid (Below w0.heap.size w0 w1):=hb1
  clear hb1 c0 c1 c2 c3 d1 d2 d3
  obtain ⟨c0,c1,c2,c3⟩:=HC4.out w1 HB1.out
  obtain ⟨k1,_,_⟩:=HTY.out w1 HB1.out j hjl
  obtain ⟨kv,hkv⟩ : ∃ k,k = kndI g (j : Int):=⟨_,rfl⟩
  rw [← hkv] at HE
  rw [← hkv]
  clear hkv
  by_cases hk0 : kv = 0
  ·subst hk0
   have HBt : Hid (∀ W,Calls Tryd.prog 21 #[.int .i64 g.ts[j].fl,.int .i64 ((8 : Nat) : Int)] W fun e w' => e = .returned (.bool (bitB g.ts[j].fl 8))∧w' = W):=fun W => refBit_any (FlOk.of HI.out _ (List.getElem_mem hjl)) (by omega) W
   have HE2 : Hid (extB g (q : Int) = (!bitB g.ts[j].fl 8 && (match (upL g (q : Int)).getLast? with | some u => decide (exI g u = -1) | none => true))):=by show _ = _; rw [HE.out,flI_at hjl]; simp
   generalize g.ts[j].fl = f at *
   clear HE
   go_wp2_with fail
   refine (HBt.out _).mono ?_
   rintro e wz ⟨rfl,hz⟩
   subst wz
   cases hb8 : bitB f 8 with
   | true =>
    have HBad : Hid (extB g (q : Int) = false):=by show _ = _; rw [HE2.out,hb8]; rfl
    clear hb8 HE2
    go_wp2_with fail
    go_ret
    exact ⟨ret_bool (by rw [HBad.out]; rfl),bstep HB0.out HB1.out⟩
   | false =>
    have HE3 : Hid (extB g (q : Int) = (match (upL g (q : Int)).getLast? with | some u => decide (exI g u = -1) | none => true)):=by show _ = _; rw [HE2.out,hb8]; rfl
    clear hb8 HE2 k1
    go_wp2_with fail
    refine Calls.mono (HUp.out _ HB1.out) ?_
    rintro e w2 ⟨uv,rfl,hu,hb2⟩
    have HB2 : Hid (Below w0.heap.size w0 w2):=bstep HB1.out hb2
    have hne : upL g (q : Int) ≠ []:=by intro e; have:=upL_self (g:=g) (t:=(q : Int)) (by rw [numB_iff]; omega); rw [e] at this; simp at this
    obtain ⟨m,hm⟩ : ∃ m,(upL g (q : Int)).length = m + 1:=⟨(upL g (q : Int)).length - 1,by have:=List.length_pos_iff.2 hne; omega⟩
    obtain ⟨gl,capl,hlv,p1,p2,p3,p4,p5⟩:=hu.parts hne
    have cz:=p5 m (by omega)
    obtain ⟨z,hz,hzl⟩:=num_nat ((upL_nd g (q : Int)).1 _ (List.getElem_mem (show m < (upL g (q : Int)).length by omega)))
    rw [hz] at cz
    have HE4 : Hid (extB g (q : Int) = decide (g.ts[z].ex = -1)):=by
     show _ = _
     rw [HE3.out,List.getLast?_eq_getElem?,show (upL g (q : Int)).length - 1 = m by omega,List.getElem?_eq_getElem (by omega),hz]
     simp only [exI_at hzl]
    have hexz:=(im_type HI.out hzl).1
    obtain ⟨_,kz,_⟩:=HTY.out w2 HB2.out z hzl
    have hzi : (z : Int) < (g.ts.length : Int):=by omega
    rw [hm] at hlv p1
    subst hlv
    unfold maxLen at p2
    clear hb2 c0 c1 c2 c3 hu hne p5 HE3 hm hz
    obtain ⟨c0,c1,c2,c3⟩:=HC4.out w2 HB2.out
    generalize g.ts[z].ex = ez at *
    by_cases hez : ez = -1
    ·have hge : ¬ 0 ≤ ez:=by omega
     have HX : Hid (extB g (q : Int) = true):=by show _ = _; rw [HE4.out,decide_eq_true hez]
     clear hez HE4 hexz
     have d3:=HD3.out w2 HB2.out
     go_wp2_with fail
     go_quiet (fail)
     have HBs : Hid (Below w0.heap.size w0 (w2.drewN nq)):=Below.drewN HB2.out _
     go_wp2_with fail
     clear c0 c1 c2 c3 d3 cz kz
     go_loopw [8] (fun z wr => ∃ i : Nat,i ≤ x.fs.length∧z = .int .i64 i∧Hid (Below w0.heap.size w0 wr)∧Hid (FcOk g x.fs i)) (fun z _ => x.fs.length - (intOf z).toNat)
     case atStart => exact ⟨0,Nat.zero_le _,rfl,HBs.out,FcOk.zero _ _⟩
     case round =>
      obtain ⟨i,hi2,rfl,HB,HF⟩:=hrel
      by_cases hil : i < x.fs.length
      ·have hii : (i : Int) < (x.fs.length : Int):=by omega
       obtain ⟨fb,foff,hfa,hfb,_,h6,h7,hc⟩:=(HFI.out wr HB.out).at hil
       have HCy : Hid (wr.cell? ⟨fb,foff + i,none⟩ = some (.int .i64 x.fs[i])):=hc i hil
       have HY : Hid (kndI g x.fs[i] = 2 → (x.fs.take i).contains x.fs[i] = false → FcOk g x.fs (i + 1)):=fun h1 h2 => HF.out.step hil h1 h2
       have HN1 : Hid (kndI g x.fs[i] ≠ 2 → facB g (q : Int) = false):=fun h => by rw [HFQ.out]; exact fcOk_no1 hil h
       have HN2 : Hid ((x.fs.take i).contains x.fs[i] = true → facB g (q : Int) = false):=fun h => by rw [HFQ.out]; exact fcOk_no2 hil h
       have HSl:=slice_toE (P:=Tryd.prog) (E:=intE) (show Es intE wr (.slice (some ⟨fb,foff,none⟩) x.fs.length x.fc) x.fs by have:=(HFI.out wr HB.out).toEs; rw [hfa] at this; exact this) i (by omega) 40 3 Tryd.underlying40 (by kernel_rfl)
       have hsl:=HSl.1
       have HHs : Hid (∀ W,Below wr.heap.size wr W → Calls Tryd.prog 36 #[.slice (some ⟨fb,foff,none⟩) i x.fc,.int .i64 x.fs[i]] W fun e w' => e = .returned (.bool ((x.fs.take i).contains x.fs[i]))∧w' = W):=fun W hW => refHas_any (HSl.2.later hW).toIs _
       have HKy : Hid (∀ W,Below wr.heap.size wr W → Calls Tryd.prog 14 #[.agg #[.slice (some ⟨tb,off,none⟩) g.ts.length g.tc,.slice g.fa g.fs.length g.fc,.slice g.ma g.ms.length g.mc,.int .i64 g.en],.int .i64 x.fs[i]] W fun e w' => e = .returned (.int .i64 (kndI g x.fs[i]))∧Below W.heap.size W w'):=fun W hW => HKd.out W _ (bstep HB.out hW)
       have HK : Hid (∀ W,Below wr.heap.size wr W → W.cell? ⟨w.heap.size,0,none⟩ = some (.slice (some ⟨tb,off,none⟩) g.ts.length g.tc)∧W.cell? ⟨w.heap.size,1,none⟩ = some (.slice g.fa g.fs.length g.fc)∧W.cell? ⟨w.heap.size,2,none⟩ = some (.slice g.ma g.ms.length g.mc)∧W.cell? ⟨w.heap.size,3,none⟩ = some (.int .i64 g.en)∧W.cell? ⟨fb,foff + i,none⟩ = some (.int .i64 x.fs[i])):=fun W hW => ⟨(HC4.out W (bstep HB.out hW)).1,(HC4.out W (bstep HB.out hW)).2.1,(HC4.out W (bstep HB.out hW)).2.2.1,(HC4.out W (bstep HB.out hW)).2.2.2,by rw [← HCy.out]; exact hW.cell (p:=⟨fb,foff + i,none⟩) hfb⟩
       rw [hfa]
       have HFA : Hid (x.fa = _):=hfa
       obtain ⟨hasv,hhv⟩ : ∃ b,b = (x.fs.take i).contains x.fs[i]:=⟨_,rfl⟩
       rw [← hhv] at HY HN2 HHs
       unfold maxLen at h7
       clear hc HSl hfa hhv HCy
       generalize x.fs[i] = y at *
       obtain ⟨kv,hkv⟩ : ∃ k,k = kndI g y:=⟨_,rfl⟩
       rw [← hkv] at HY HN1 HKy
       clear hkv
       obtain ⟨e0,e1,e2,e3,e4⟩:=HK.out wr (Below.refl _ _)
       go_wp2_with fail
       by_cases hk2 : kv = 2
       ·subst hk2
        cases hasv with
        | true =>
         have HBad : Hid (facB g (q : Int) = false):=HN2.out rfl
         clear HY HN1 HN2
         refine wp_region_held_drew (S:=(fun W : World => W.cell? ⟨w.heap.size,0,none⟩ = some (.slice (some ⟨tb,off,none⟩) g.ts.length g.tc)∧W.cell? ⟨w.heap.size,1,none⟩ = some (.slice g.fa g.fs.length g.fc)∧W.cell? ⟨w.heap.size,2,none⟩ = some (.slice g.ma g.ms.length g.mc)∧W.cell? ⟨w.heap.size,3,none⟩ = some (.int .i64 g.en)∧W.cell? ⟨fb,foff + i,none⟩ = some (.int .i64 y))) (by kernel_rfl) (HK.out _ (bdrew _)) (fun hHeld => ?_)
         refine tY 0 opH0 (.agg #[.slice (some ⟨tb,off,none⟩) g.ts.length g.tc,.slice g.fa g.fs.length g.fc,.slice g.ma g.ms.length g.mc,.int .i64 g.en]) hHeld ?_
         refine tY 1 opH1 (.slice (some ⟨fb,foff,none⟩) x.fs.length x.fc) hHeld ?_
         refine tY 2 opH2 (.int .i64 i) hHeld ?_
         refine tY 3 opH3 (.pointer (some ⟨fb,foff + i,none⟩)) hHeld ?_
         refine tY 4 opH4 (.int .i64 y) hHeld ?_
         refine wpAnyH_ready (rs := [5]) (by kernel_rfl) (by simp) ?_
         refine AllReadyH.cons (o:=opH5) rfl (fun K hK => ?_) AllReadyH.nil
         go_simp
         refine (HKy.out _ (bdrew _)).mono ?_
         rintro e w2 ⟨rfl,hb2⟩
         have hBc : Below wr.heap.size wr w2:=bstep (bdrew _) hb2
         try go_wp2_with fail
         refine hK.out _ _ (HK.out _ hBc) (fun hHeld => ?_)
         clear hK K
         try simp only [Act.put,sA,s0,sS]
         refine tY 6 opH6 (.bool false) hHeld ?_
         refine tY 7 opH7 (.bool false) hHeld ?_
         refine tY 8 opH8 (.slice (some ⟨fb,foff,none⟩) x.fs.length x.fc) hHeld ?_
         refine tY 9 opH9 (.int .i64 i) hHeld ?_
         refine tY 10 opH10 (.slice (some ⟨fb,foff,none⟩) i x.fc) hHeld ?_
         refine tY 11 opH11 (.slice (some ⟨fb,foff,none⟩) x.fs.length x.fc) hHeld ?_
         refine tY 12 opH12 (.int .i64 i) hHeld ?_
         refine tY 13 opH13 (.pointer (some ⟨fb,foff + i,none⟩)) hHeld ?_
         refine tY 14 opH14 (.int .i64 y) hHeld ?_
         refine wpAnyH_ready (rs := [15]) (by kernel_rfl) (by simp) ?_
         refine AllReadyH.cons (o:=opH15) rfl (fun K hK => ?_) AllReadyH.nil
         go_simp
         refine (HHs.out _ hBc).mono ?_
         rintro e wz ⟨rfl,hz⟩
         subst wz
         try go_wp2_with fail
         refine hK.out _ _ (HK.out _ hBc) (fun hHeld => ?_)
         clear hK K
         try simp only [Act.put,sA,s0,sS]
         refine tY 16 opH16 (.bool true) hHeld ?_
         refine wpAnyH_done (by kernel_rfl) ?_ _

         have HBe : Hid (Below w0.heap.size w0 w2):=bstep HB.out hBc
         clear hBc hb2
         go_wp2_with fail
         go_ret
         exact ⟨ret_bool (by rw [HBad.out]; simp),bstep HB0.out HBe.out⟩
        | false =>
         have HY2 : Hid (FcOk g x.fs (i + 1)):=HY.out rfl rfl
         clear HY HN1 HN2
         refine wp_region_held_drew (S:=(fun W : World => W.cell? ⟨w.heap.size,0,none⟩ = some (.slice (some ⟨tb,off,none⟩) g.ts.length g.tc)∧W.cell? ⟨w.heap.size,1,none⟩ = some (.slice g.fa g.fs.length g.fc)∧W.cell? ⟨w.heap.size,2,none⟩ = some (.slice g.ma g.ms.length g.mc)∧W.cell? ⟨w.heap.size,3,none⟩ = some (.int .i64 g.en)∧W.cell? ⟨fb,foff + i,none⟩ = some (.int .i64 y))) (by kernel_rfl) (HK.out _ (bdrew _)) (fun hHeld => ?_)
         refine tY 0 opH0 (.agg #[.slice (some ⟨tb,off,none⟩) g.ts.length g.tc,.slice g.fa g.fs.length g.fc,.slice g.ma g.ms.length g.mc,.int .i64 g.en]) hHeld ?_
         refine tY 1 opH1 (.slice (some ⟨fb,foff,none⟩) x.fs.length x.fc) hHeld ?_
         refine tY 2 opH2 (.int .i64 i) hHeld ?_
         refine tY 3 opH3 (.pointer (some ⟨fb,foff + i,none⟩)) hHeld ?_
         refine tY 4 opH4 (.int .i64 y) hHeld ?_
         refine wpAnyH_ready (rs := [5]) (by kernel_rfl) (by simp) ?_
         refine AllReadyH.cons (o:=opH5) rfl (fun K hK => ?_) AllReadyH.nil
         go_simp
         refine (HKy.out _ (bdrew _)).mono ?_
         rintro e w2 ⟨rfl,hb2⟩
         have hBc : Below wr.heap.size wr w2:=bstep (bdrew _) hb2
         try go_wp2_with fail
         refine hK.out _ _ (HK.out _ hBc) (fun hHeld => ?_)
         clear hK K
         try simp only [Act.put,sA,s0,sS]
         refine tY 6 opH6 (.bool false) hHeld ?_
         refine tY 7 opH7 (.bool false) hHeld ?_
         refine tY 8 opH8 (.slice (some ⟨fb,foff,none⟩) x.fs.length x.fc) hHeld ?_
         refine tY 9 opH9 (.int .i64 i) hHeld ?_
         refine tY 10 opH10 (.slice (some ⟨fb,foff,none⟩) i x.fc) hHeld ?_
         refine tY 11 opH11 (.slice (some ⟨fb,foff,none⟩) x.fs.length x.fc) hHeld ?_
         refine tY 12 opH12 (.int .i64 i) hHeld ?_
         refine tY 13 opH13 (.pointer (some ⟨fb,foff + i,none⟩)) hHeld ?_
         refine tY 14 opH14 (.int .i64 y) hHeld ?_
         refine wpAnyH_ready (rs := [15]) (by kernel_rfl) (by simp) ?_
         refine AllReadyH.cons (o:=opH15) rfl (fun K hK => ?_) AllReadyH.nil
         go_simp
         refine (HHs.out _ hBc).mono ?_
         rintro e wz ⟨rfl,hz⟩
         subst wz
         try go_wp2_with fail
         refine hK.out _ _ (HK.out _ hBc) (fun hHeld => ?_)
         clear hK K
         try simp only [Act.put,sA,s0,sS]
         refine tY 16 opH16 (.bool false) hHeld ?_
         refine wpAnyH_done (by kernel_rfl) ?_ _

         have HBe : Hid (Below w0.heap.size w0 w2):=bstep HB.out hBc
         clear hBc hb2 e0 e1 e2 e3 e4
         go_wp2_with fail
         go_roundw
         case rel => exact ⟨i + 1,by omega,by go_num,HBe.out,HY2.out⟩
         case measure => simp [intOf]; omega
       ·have hkb : (kv != 2) = true:=by simpa using hk2
        have HBad : Hid (facB g (q : Int) = false):=HN1.out hk2
        clear HY HN1 HN2
        refine wp_region_held_drew (S:=(fun W : World => W.cell? ⟨w.heap.size,0,none⟩ = some (.slice (some ⟨tb,off,none⟩) g.ts.length g.tc)∧W.cell? ⟨w.heap.size,1,none⟩ = some (.slice g.fa g.fs.length g.fc)∧W.cell? ⟨w.heap.size,2,none⟩ = some (.slice g.ma g.ms.length g.mc)∧W.cell? ⟨w.heap.size,3,none⟩ = some (.int .i64 g.en)∧W.cell? ⟨fb,foff + i,none⟩ = some (.int .i64 y))) (by kernel_rfl) (HK.out _ (bdrew _)) (fun hHeld => ?_)
        refine tY 0 opH0 (.agg #[.slice (some ⟨tb,off,none⟩) g.ts.length g.tc,.slice g.fa g.fs.length g.fc,.slice g.ma g.ms.length g.mc,.int .i64 g.en]) hHeld ?_
        refine tY 1 opH1 (.slice (some ⟨fb,foff,none⟩) x.fs.length x.fc) hHeld ?_
        refine tY 2 opH2 (.int .i64 i) hHeld ?_
        refine tY 3 opH3 (.pointer (some ⟨fb,foff + i,none⟩)) hHeld ?_
        refine tY 4 opH4 (.int .i64 y) hHeld ?_
        refine wpAnyH_ready (rs := [5]) (by kernel_rfl) (by simp) ?_
        refine AllReadyH.cons (o:=opH5) rfl (fun K hK => ?_) AllReadyH.nil
        go_simp
        refine (HKy.out _ (bdrew _)).mono ?_
        rintro e w2 ⟨rfl,hb2⟩
        have hBc : Below wr.heap.size wr w2:=bstep (bdrew _) hb2
        try go_wp2_with fail
        refine hK.out _ _ (HK.out _ hBc) (fun hHeld => ?_)
        clear hK K
        try simp only [Act.put,sA,s0,sS]
        refine tY 6 opH6 (.bool true) hHeld ?_
        refine tY 7 opH7 (.bool true) hHeld ?_
        refine tN 8 opH8 hHeld ?_
        refine tN 9 opH9 hHeld ?_
        refine tN 10 opH10 hHeld ?_
        refine tN 11 opH11 hHeld ?_
        refine tN 12 opH12 hHeld ?_
        refine tN 13 opH13 hHeld ?_
        refine tN 14 opH14 hHeld ?_
        refine tN 15 opH15 hHeld ?_
        refine tY 16 opH16 (.bool true) hHeld ?_
        refine wpAnyH_done (by kernel_rfl) ?_ _

        have HBe : Hid (Below w0.heap.size w0 w2):=bstep HB.out hBc
        clear hBc hb2
        go_wp2_with fail
        go_ret
        exact ⟨ret_bool (by rw [HBad.out]; simp),bstep HB0.out HBe.out⟩
      ·have hii : ¬ (i : Int) < (x.fs.length : Int):=by omega
       have HFE : Hid (facB g (q : Int) = (decide (kndI g (q : Int) ≠ 2) || !(reachL g.ts.length (fsI g) (fsI g (q : Int))).contains (q : Int))):=by show _ = _; rw [HFQ.out]; exact fcOk_all (by omega) HF.out
       obtain ⟨e0,e1,e2,e3⟩:=HC4.out wr HB.out
       go_wp2_with fail
       refine Calls.mono (HKd.out _ _ HB.out) ?_
       rintro e w4 ⟨rfl,hb4⟩
       have HB4 : Hid (Below w0.heap.size w0 w4):=bstep HB.out hb4
       clear hb4 e0 e1 e2 e3
       by_cases hk2 : kndI g (q : Int) = 2
       ·rw [hk2]
        have HFc : Hid (outL (facL g (q : Int)) g.ts.length = outL (reachL g.ts.length (fsI g) (fsI g (q : Int))) g.ts.length):=HF2.out hk2
        have HFE2 : Hid (facB g (q : Int) = !(reachL g.ts.length (fsI g) (fsI g (q : Int))).contains (q : Int)):=by show _ = _; rw [HFE.out,hk2]; simp
        clear hk2
        obtain ⟨e0,e1,e2,e3⟩:=HC4.out w4 HB4.out
        go_wp2_with fail
        refine Calls.mono (HFs.out w4 HB4.out) ?_
        rintro e w5 ⟨fv,rfl,hf,hb5⟩
        have HB5 : Hid (Below w0.heap.size w0 w5):=bstep HB4.out hb5
        have HHq : Hid (Calls Tryd.prog 36 #[fv,.int .i64 q] w5 fun e w' => e = .returned (.bool ((reachL g.ts.length (fsI g) (fsI g (q : Int))).contains (q : Int)))∧w' = w5):=by
         have:=refHas_any hf.is (q : Int)
         rwa [HFc.out,outL_has (reachL_nd _ _ _)] at this
        clear hf hb5 e0 e1 e2 e3
        generalize (reachL g.ts.length (fsI g) (fsI g (q : Int))).contains (q : Int) = r at *
        go_wp2_with fail
        refine Calls.mono HHq.out ?_
        rintro e wz ⟨rfl,hz⟩
        subst wz
        go_wp2_with fail
        go_ret
        exact ⟨ret_bool (by rw [HX.out,HFE2.out]; rfl),bstep HB0.out HB5.out⟩
       ·have hkb : (kndI g (q : Int) != 2) = true:=by simpa using hk2
        have HFE2 : Hid (facB g (q : Int) = true):=by show _ = _; rw [HFE.out,decide_eq_true hk2]; rfl
        clear hk2
        generalize kndI g (q : Int) = kq at *
        go_wp2_with fail
        go_ret
        exact ⟨ret_bool (by rw [HX.out,HFE2.out]; rfl),bstep HB0.out HB4.out⟩
    ·have hge : 0 ≤ ez:=by rcases hexz with h | h; exact absurd h hez; exact (numB_iff.1 h).1
     have HBad : Hid (extB g (q : Int) = false):=by show _ = _; rw [HE4.out,decide_eq_false hez]
     clear hez HE4 hexz
     go_wp2_with fail
     go_quiet (fail)
     go_wp2_with fail
     go_ret
     exact ⟨ret_bool (by rw [HBad.out]; rfl),bstep HB0.out (Below.drewN HB2.out _)⟩
  ·have hkb : (kv != 0) = true:=by simpa using hk0
   have HBad : Hid (extB g (q : Int) = false):=by show _ = _; rw [HE.out,decide_eq_false hk0]; rfl
   clear hk0 HE
   go_wp2_with fail
   go_ret
   exact ⟨ret_bool (by rw [HBad.out]; rfl),bstep HB0.out HB1.out⟩
end Go.Proofs.YtapocgcdjkbnhaaDoor
