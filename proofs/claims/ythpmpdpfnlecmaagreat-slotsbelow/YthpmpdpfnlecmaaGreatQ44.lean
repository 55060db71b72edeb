/- Texts joined: Uses13, Types13. -/
import Derived.Test.YthpmpdpfnlecmaaGreatQ43
import Derived.Test.YthpmpdpfnlecmaaGreatQ39
import Derived.Test.YthpmpdpfnlecmaaGreatQ10
import Derived.Test.YthpmpdpfnlecmaaGreatQ02
import Derived.Test.YthpmpdpfnlecmaaGreatQ29
namespace Go.Proofs.YthpmpdpfnlecmaaGreat
set_option linter.unusedVariables false
set_option linter.unusedSimpArgs false
open Go.RowKit Go.Maps
attribute [local go_sem ↓] Go.wp_at_zero Go.wp_at_succ
structure Bm (m : Nat) (w w' : World) : Prop where
 os : w'.os = w.os
 tape : w'.tape = w.tape
 output : w'.output = w.output
 size : w.heap.size ≤ w'.heap.size
 block : ∀ k,k < w.heap.size → k ≠ m → w'.heap[k]? = w.heap[k]?
theorem Bm.refl (m : Nat) (w : World) : Bm m w w:=⟨rfl,rfl,rfl,Nat.le_refl _,fun _ _ _ => rfl⟩
theorem Bm.trans {m : Nat} {a b c : World} (h : Bm m a b) (h2 : Bm m b c) : Bm m a c :=
 ⟨h2.os.trans h.os,h2.tape.trans h.tape,h2.output.trans h.output,Nat.le_trans h.size h2.size,fun k hk hm => (h2.block k (Nat.lt_of_lt_of_le hk h.size) hm).trans (h.block k hk hm)⟩
theorem Bm.of {m : Nat} {w w' : World} (h : Below w.heap.size w w') : Bm m w w':=⟨h.os,h.tape,h.output,h.size,fun k hk _ => h.block k hk⟩
theorem Bm.grown {m : Nat} {w w' : World} (h : w.grownBy w' (some m)) : Bm m w w':=⟨h.os,h.tape,h.output,h.size,fun k hk hm => h.block k hk (fun e => hm (by simpa using e))⟩
theorem Bm.below {m base : Nat} {win w w' : World} (hb : Below base win w) (hs : base ≤ win.heap.size) (hm : base ≤ m) (h : Bm m w w') : Below base win w' :=
 ⟨h.os.trans hb.os,h.tape.trans hb.tape,h.output.trans hb.output,Nat.le_trans hb.size h.size,fun k hk => (h.block k (by have:=hb.size; omega) (by omega)).trans (hb.block k hk)⟩
theorem At.bm {m b : Nat} {w w' : World} {C : Array Value} {t : TypeId} (h : At w b C t) (hb : Bm m w w') (hne : b ≠ m) : At w' b C t:=by
 have hl:=h.lt
 unfold At at h ⊢
 rw [hb.block b hl hne]; exact h
def UM (w : World) (mm : Nat) (g : Img) (c : Nat) : Prop := ∃ (n : Nat) (D : DataW Unit),w.ownsMap Tryz.prog 51 (unitElem (H:=Unit)) mm n D∧n ≤ c∧∀ t,WfT t → Maps.has D (keyTy t) = true → usdB g t = true
theorem ownsMapY_later {w w' : World} {mm n : Nat} {D : DataW Unit} (h : w.ownsMap Tryz.prog 51 (unitElem (H:=Unit)) mm n D) (hb : Below w.heap.size w w') : w'.ownsMap Tryz.prog 51 (unitElem (H:=Unit)) mm n D:=by
 have hlt:=h.lt
 obtain ⟨es,clock,hh,r⟩:=h
 exact ⟨es,clock,(hb.block mm hlt).trans hh,r⟩
theorem UM.later {w w' : World} {mm c : Nat} {g : Img} (h : UM w mm g c) (hb : Below w.heap.size w w') : UM w' mm g c:=by
 obtain ⟨n,D,h1,h2,h3⟩:=h
 exact ⟨n,D,ownsMapY_later h1 hb,h2,h3⟩
theorem UM.mono {w : World} {mm c d : Nat} {g : Img} (h : UM w mm g c) (hcd : c ≤ d) : UM w mm g d:=by
 obtain ⟨n,D,h1,h2,h3⟩:=h
 exact ⟨n,D,h1,Nat.le_trans h2 hcd,h3⟩
theorem UM.lt {w : World} {mm c : Nat} {g : Img} (h : UM w mm g c) : mm < w.heap.size:=by
 obtain ⟨n,D,h1,_⟩:=h
 exact h1.lt
def usA (g : Img) (mm : Nat) : Array Value:=#[.slice g.ta g.ts.length g.tc,.slice g.fa g.fs.length g.fc,.slice g.ma g.ms.length g.mc,.int .i64 g.en,.map (some mm)]
def usV (g : Img) (mm : Nat) : Value := .agg #[.slice g.ta g.ts.length g.tc,.slice g.fa g.fs.length g.fc,.slice g.ma g.ms.length g.mc,.int .i64 g.en,.map (some mm)]
abbrev Us5 (W : World) (b : Nat) (g : Img) (mm : Nat) : Prop:=W.cell? ⟨b,0,none⟩ = some (.slice g.ta g.ts.length g.tc)∧W.cell? ⟨b,1,none⟩ = some (.slice g.fa g.fs.length g.fc)∧W.cell? ⟨b,2,none⟩ = some (.slice g.ma g.ms.length g.mc)∧W.cell? ⟨b,3,none⟩ = some (.int .i64 g.en)∧W.cell? ⟨b,4,none⟩ = some (.map (some mm))
theorem Us5.of {W : World} {b mm : Nat} {g : Img} {t : TypeId} (h : At W b (usA g mm) t) : Us5 W b g mm:=⟨h.cell 0,h.cell 1,h.cell 2,h.cell 3,h.cell 4⟩
def stripT (t : Ty) : Ty:=(t.1,t.2.1,0,false)
theorem plain_ranges {t : Ty} (h : plainT t = true) : 1 ≤ t.1∧t.1 ≤ 7∧0 ≤ t.2.1∧t.2.1 < 32∧0 ≤ t.2.2.1∧t.2.2.1 ≤ 3:=by
 unfold plainT plainB at h
 rw [decide_eq_true_iff] at h
 omega
theorem plain_strip {t : Ty} (h : plainT t = true) : plainT (stripT t) = true:=by
 unfold plainT plainB at h ⊢
 rw [decide_eq_true_iff] at h ⊢
 obtain ⟨_,_,h3,h4⟩:=h
 refine ⟨Int.le_refl 0,(show (0 : Int) ≤ 3 by decide),h3, ?_⟩
 rcases h4 with ⟨a,_,_,d⟩ | h4 | h4 | h4
 ·exact Or.inl ⟨a,rfl,rfl,d⟩
 ·exact Or.inr (Or.inl h4)
 ·exact Or.inr (Or.inr (Or.inl h4))
 ·exact Or.inr (Or.inr (Or.inr h4))
theorem usd_strip {g : Img} {t : Ty} (h : plainT t = true) : usdB g (stripT t) = usdB g t:=by
 have h2:=plain_strip h
 unfold usdB
 rw [h,h2]
 rfl
theorem wf_of13 {t : Int} (h : 0 ≤ t∧t ≤ 1000) : (Lit.int .i64 t).wf = true:=WalkArith.wf_i64 (by omega)
theorem wf_strip {t : Ty} (h : plainT t = true) : WfT (stripT t):=by
 obtain ⟨h1,h2,h3,h4,_,_⟩:=plain_ranges h
 exact ⟨wf_of13 (show 0 ≤ t.1∧t.1 ≤ 1000 by omega),wf_of13 (show 0 ≤ t.2.1∧t.2.1 ≤ 1000 by omega),wf_of13 (show (0 : Int) ≤ 0∧(0 : Int) ≤ 1000 by omega)⟩

set_option maxHeartbeats 8000000 in
set_option maxRecDepth 20000 in
theorem usesWell_any {win w : World} {mm c : Nat} {g : Img} {t : Ty} (hw : welB g = true) (hg : Im win g) (hbel : Below win.heap.size win w) (hlo : win.heap.size ≤ mm) (hU : UM w mm g c) (hc : c ≤ 1000000) (ht : plainT t = true) :
  Calls Tryz.prog 82 #[usV g mm,.agg #[.int .i64 t.1,.int .i64 t.2.1,.int .i64 t.2.2.1,.bool t.2.2.2]] w fun e w' => e = .returned (.bool (usdB g t))∧Bm mm w w'∧UM w' mm g (c + 1):=by
 obtain ⟨w0,hw0⟩ : ∃ W,W = (w.alloc (.cells (usA g mm) 69)).alloc (.cells #[.int .i64 t.1,.int .i64 t.2.1,.int .i64 0,.bool false] 51):=⟨_,rfl⟩
 have HW0 : Hid (w0 = _):=hw0
 obtain ⟨hb0,hat⟩:=two_boxes hw0
 have HB0 : Hid (Below w.heap.size w w0):=hb0
 have HU5 : Hid (∀ W,Below w0.heap.size w0 W → Us5 W w.heap.size g mm):=fun W hW => Us5.of (hat W hW).1
 have HT4 : Hid (∀ W,Below w0.heap.size w0 W → W.cell? ⟨w.heap.size + 1,0,none⟩ = some (.int .i64 t.1)∧W.cell? ⟨w.heap.size + 1,1,none⟩ = some (.int .i64 t.2.1)∧W.cell? ⟨w.heap.size + 1,2,none⟩ = some (.int .i64 0)∧W.cell? ⟨w.heap.size + 1,3,none⟩ = some (.bool false)):=fun W hW => by
  have h:=(hat W hW).2
  exact ⟨h.cell 0,h.cell 1,h.cell 2,h.cell 3⟩
 obtain ⟨n,D,hmap0,hn,hgood⟩:=hU.later hb0
 obtain ⟨wA,hwA⟩ : ∃ W,W = w0.alloc (.cells #[] 83):=⟨_,rfl⟩
 have HWA : Hid (wA = _):=hwA
 have hbA : Below w0.heap.size w0 wA:=by rw [hwA]; exact made_below _ _ _
 have HBA : Hid (Below w0.heap.size w0 wA):=hbA
 have HUA : Hid (wA.ownsMap Tryz.prog 51 (unitElem (H:=Unit)) mm n D):=ownsMapY_later hmap0 hbA
 have HGd : Hid (∀ t,WfT t → Maps.has D (keyTy t) = true → usdB g t = true):=hgood
 have hkey : keyOf Tryz.prog 51 (.agg #[.int .i64 t.1,.int .i64 t.2.1,.int .i64 0,.bool false]) = some (keyTy (stripT t)):=keyTy_of (wf_strip ht)
 have HWf : Hid (WfT (stripT t)):=wf_strip ht
 have HSt : Hid (usdB g (stripT t) = usdB g t):=usd_strip ht
 have HUs : Hid (∀ W,Below w0.heap.size w0 W → Ans 134 #[imA4 g,.agg #[.int .i64 t.1,.int .i64 t.2.1,.int .i64 0,.bool false]] W (.bool (usdB g t))):=fun W hW => by
  have:=used12_any (stripT t) ((hg.later (bstep hbel hb0)).later hW)
  rw [hw,usd_strip ht] at this
  exact this
 have HNc : Hid (n ≤ c):=hn
 have hn2 : n ≤ 1000000:=by omega
 obtain ⟨c0,c1,c2,c3,c4⟩:=HU5.out w0 (Below.refl _ _)
 obtain ⟨d0,d1,d2,d3⟩:=HT4.out w0 (Below.refl _ _)
 have hmap : w0.ownsMap Tryz.prog 51 (unitElem (H:=Unit)) mm n D:=hmap0
 unfold usA at HW0
 unfold imA4 at HUs
 unfold usV
 clear hw0 hb0 hat hU hmap0 hgood hn hwA hbA hw hg hbel ht
 generalize usdB g t = F at *
 generalize hkl : keyTy (stripT t) = kl at *
 have HKl : Hid (keyTy (stripT t) = kl):=hkl
 clear hkl
 cases hhas : Maps.has D kl with
 | true =>
  have HF : Hid (F = true):=by
   show _ = _
   rw [← HSt.out]
   exact HGd.out _ HWf.out (by rw [HKl.out]; exact hhas)
  go_enter Tryz.func82,Tryz.ntmps82
  go_wp2_with (first | (at_lookup; go_must (refine wpList_lookup_own_unit _ rfl _ _ 67 rfl 51 83 lawTy Tryz.underlying67 (zero11 _) mm _ _ rfl hmap _ _ rfl hkey ?_)) | (rw [← HWA.out]) | (rw [← HW0.out]))
  go_ret
  exact ⟨ret_bool HF.out.symm,Bm.of (bstep HB0.out HBA.out),n,D,HUA.out,Nat.le_succ_of_le HNc.out,HGd.out⟩
 | false =>
  obtain ⟨e0,e1,e2,e3,e4⟩:=HU5.out wA HBA.out
  obtain ⟨f0,f1,f2,f3⟩:=HT4.out wA HBA.out
  go_enter Tryz.func82,Tryz.ntmps82
  go_wp2_with (first | (at_lookup; go_must (refine wpList_lookup_own_unit _ rfl _ _ 67 rfl 51 83 lawTy Tryz.underlying67 (zero11 _) mm _ _ rfl hmap _ _ rfl hkey ?_)) | (rw [← HWA.out]) | (rw [← HW0.out]))
  refine Calls.mono (HUs.out wA HBA.out) ?_
  rintro e w1 ⟨rfl,hb1⟩
  have HB1 : Hid (Below w0.heap.size w0 w1):=bstep HBA.out hb1
  have hmap1 : w1.ownsMap Tryz.prog 51 (unitElem (H:=Unit)) mm n D:=ownsMapY_later HUA.out hb1
  clear hb1 c0 c1 c2 c3 c4 d0 d1 d2 d3 e0 e1 e2 e3 e4 f0 f1 f2 f3 hmap
  cases F with
  | false =>
   go_wp2_with fail
   go_ret
   exact ⟨rfl,Bm.of (bstep HB0.out HB1.out),n,D,hmap1,Nat.le_succ_of_le HNc.out,HGd.out⟩
  | true =>
   obtain ⟨c0,c1,c2,c3,c4⟩:=HU5.out w1 HB1.out
   obtain ⟨d0,d1,d2,d3⟩:=HT4.out w1 HB1.out
   go_wp2_with (at_mapUpdate; go_must (refine wpList_mapUpdate_own _ rfl _ _ _ 67 rfl 51 83 lawTy Tryz.underlying67 (unitElem (H:=Unit)) mm _ _ rfl hmap1 (by unfold maxLen; omega) _ _ _ rfl rfl hkey (.agg []) [] unitElem_mk ?_; intro w2 hown2 hgrow2))
   go_ret
   refine ⟨rfl,(Bm.of (bstep HB0.out HB1.out)).trans (Bm.grown hgrow2),_,_,hown2,by have:=HNc.out; omega,fun s hs h => ?_⟩
   by_cases e : keyTy s = kl
   ·have : s = stripT t:=keyTy_inj hs HWf.out (by rw [e,HKl.out])
    rw [this]; exact HSt.out
   ·rw [has_put_other e] at h
    exact HGd.out s hs h
end Go.Proofs.YthpmpdpfnlecmaaGreat

namespace Go.Proofs.YthpmpdpfnlecmaaGreat
set_option linter.unusedVariables false
set_option linter.unusedSimpArgs false
open Go.RowKit
attribute [local go_sem ↓] Go.wp_at_zero Go.wp_at_succ
theorem op_range {n nf nm len : Nat} {y : Ins} (h : insB n nf nm len y = true) : 1 ≤ y.1∧y.1 ≤ 75:=by
 unfold insB fitI fitE at h
 rw [Bool.and_eq_true,decide_eq_true_iff] at h
 by_cases hr : 1 ≤ y.1∧y.1 ≤ 75
 ·exact hr
 ·rw [if_neg hr] at h; exact absurd h.1 (by decide)
theorem ity_take {l : List Ins} {q : Nat} (hq : q < l.length) : ityL (l.take (q + 1)) = ityL (l.take q) ++ (if opP l[q].1 = 8 then [l[q].2.2] else []):=by
 unfold ityL
 rw [List.take_succ_eq_append_getElem hq,List.filter_append,List.map_append]
 congr 1
 by_cases h : opP l[q].1 = 8 <;> simp [List.filter_cons,h]
theorem cty_take {l : List Cl} {q : Nat} (hq : q < l.length) : ctyL (l.take (q + 1)) = ctyL (l.take q) ++ (if l[q].k = 1 then [(l[q].t0,l[q].t1,l[q].t2,l[q].t3)] else []):=by
 unfold ctyL
 rw [List.take_succ_eq_append_getElem hq,List.filter_append,List.map_append]
 congr 1
 by_cases h : l[q].k = 1 <;> simp [List.filter_cons,h]
theorem ity_len (l : List Ins) : (ityL l).length ≤ l.length:=by unfold ityL; rw [List.length_map]; exact List.length_filter_le _ _
theorem cty_len (l : List Cl) : (ctyL l).length ≤ l.length:=by unfold ctyL; rw [List.length_map]; exact List.length_filter_le _ _
structure MdLen (x : MD) : Prop where
 ps : x.ps.length ≤ 6
 ls : x.ls.length ≤ 12
 co : x.co.length ≤ 160
 cl : x.cl.length ≤ 6
theorem md_parts {g : Img} (hi : imB g = true) {q : Nat} (hq : q < g.ms.length) : sigE g.ms[q].ps g.ms[q].rt = 0∧locE g.ms[q].ls = 0∧g.ms[q].co.length ≤ 160∧(∀ y ∈ g.ms[q].co,insB g.ts.length g.fs.length g.ms.length g.ms[q].co.length y = true)∧RightL g.ms[q].co.length g.ms[q].cl∧(∀ c ∈ g.ms[q].cl,catB g.ts.length c = true)∧0 ≤ g.ms[q].mx∧numB g.ms[q].ow g.ts.length = true:=by
 unfold imB at hi
 simp only [Bool.and_eq_true,List.all_eq_true] at hi
 have:=hi.1.2.1 g.ms[q] (List.getElem_mem hq)
 unfold mdB witB rgtB at this
 simp only [Bool.and_eq_true,List.all_eq_true,@decide_eq_true_iff (sigE _ _ = 0),@decide_eq_true_iff (locE _ = 0),@decide_eq_true_iff (_ ≤ _),decide_eq_true_eq] at this
 exact ⟨this.1.1.1.2.1.1,this.1.1.2.1,this.1.2.1,this.1.2.2,this.2.1,this.2.2,this.1.1.1.1.2.1,this.1.1.1.1.1.1.2⟩
theorem md_len {g : Img} (hi : imB g = true) {q : Nat} (hq : q < g.ms.length) : MdLen g.ms[q]:=by
 obtain ⟨h1,h2,h3,_,h5,_⟩:=md_parts hi hq
 refine ⟨?_, ?_,h3,h5.1⟩
 ·unfold sigE at h1
  split at h1
  ·omega
  ·omega
 ·unfold locE at h2
  split at h2
  ·omega
  ·omega
theorem md_plain {g : Img} (hi : imB g = true) {q : Nat} (hq : q < g.ms.length) : ∀ t ∈ typL g.ms[q],plainT t = true:=by
 obtain ⟨h1,h2,_,h4,_,h6,_⟩:=md_parts hi hq
 have hp : ∀ (p : Nat) (t : Ty),mayT p t = true → plainT t = true:=fun p t h => by
  unfold mayT mayB at h
  unfold plainT
  split at h
  ·simp only [Bool.and_eq_true] at h; exact h.1.1
  ·split at h
   ·simp only [Bool.and_eq_true] at h; exact h.1
   ·split at h
    ·simp only [Bool.and_eq_true] at h; exact h.1
    ·exact h
 have hs : mayT 3 g.ms[q].rt = true∧g.ms[q].ps.all (mayT 2) = true:=by
  unfold sigE at h1
  split at h1
  ·omega
  ·split at h1
   ·assumption
   ·omega
 have hl : g.ms[q].ls.all (mayT 2) = true:=by
  unfold locE at h2
  split at h2
  ·omega
  ·split at h2
   ·assumption
   ·omega
 rw [List.all_eq_true] at hl
 have hs2:=List.all_eq_true.1 hs.2
 intro t ht
 unfold typL at ht
 simp only [List.mem_append,List.mem_singleton] at ht
 rcases ht with (((rfl | ht) | ht) | ht) | ht
 ·exact hp 3 _ hs.1
 ·exact hp 2 t (hs2 t ht)
 ·exact hp 2 t (hl t ht)
 ·unfold ityL at ht
  obtain ⟨y,hy,rfl⟩:=List.mem_map.1 ht
  rw [List.mem_filter,decide_eq_true_iff] at hy
  have h7:=h4 y hy.1
  have hr:=op_range h7
  unfold insB fitI fitE at h7
  rw [Bool.and_eq_true,decide_eq_true_iff,if_pos hr] at h7
  have h8 : fitB (opP y.1) y.2.1 y.2.2.1 y.2.2.2.1 y.2.2.2.2.1 y.2.2.2.2.2 = true:=by
   have:=h7.1
   split at this
   ·assumption
   ·omega
  unfold fitB at h8
  rw [hy.2,if_pos rfl,Bool.and_eq_true] at h8
  exact hp 1 y.2.2 h8.2
 ·unfold ctyL at ht
  obtain ⟨c,hc,rfl⟩:=List.mem_map.1 ht
  rw [List.mem_filter,decide_eq_true_iff] at hc
  have h7:=h6 c hc.1
  unfold catB at h7
  rw [if_pos hc.2] at h7
  unfold fldB at h7
  rw [Bool.and_eq_true] at h7
  exact hp 1 _ h7.1

def OpsOk (x : MD) : Prop := ∀ y ∈ x.co,1 ≤ y.1∧y.1 ≤ 75
theorem md_ops {g : Img} (hi : imB g = true) {q : Nat} (hq : q < g.ms.length) : OpsOk g.ms[q]:=fun y hy => op_range ((md_parts hi hq).2.2.2.1 y hy)

set_option maxHeartbeats 16000000 in
set_option maxRecDepth 20000 in
theorem typesOf_any {x : MD} {w : World} (hx : x.ok w) (hl : MdLen x) (ho : OpsOk x) : Calls Tryz.prog 81 #[mdV x] w fun e w' => ∃ v,e = .returned v∧OwnE tyE w' w.heap.size 51 v (typL x)∧Below w.heap.size w w':=by
 obtain ⟨w0,HW0,HB0,HC,c0,c1,c2,c3,c4,c5,c6,c7,c8,c9,c10,c11⟩:=mth_head w x
 have HPs : Hid (∀ W,Below w0.heap.size w0 W → Es tyE W (.slice x.pa x.ps.length x.pc) x.ps):=fun W hW => (hx.ps.later HB0.out).later hW
 have HLs : Hid (∀ W,Below w0.heap.size w0 W → Es tyE W (.slice x.la x.ls.length x.lc) x.ls):=fun W hW => (hx.ls.later HB0.out).later hW
 have HCo : Hid (∀ W,Below w0.heap.size w0 W → Es insE W (.slice x.ca x.co.length x.cc) x.co):=fun W hW => (hx.co.later HB0.out).later hW
 have HCl : Hid (∀ W,Below w0.heap.size w0 W → Es clE9 W (.slice x.ka x.cl.length x.kc) x.cl):=fun W hW => (hx.cl.later HB0.out).later hW
 have HOp : Hid (∀ y ∈ x.co,1 ≤ y.1∧y.1 ≤ 75):=ho
 obtain ⟨l1,l2,l3,l4⟩:=hl
 have HTy : Hid (typL x = [x.rt] ++ x.ps ++ x.ls ++ ityL x.co ++ ctyL x.cl):=rfl
 have HiL : Hid (∀ q,(ityL (x.co.take q)).length ≤ 160):=fun q => by
  have:=ity_len (x.co.take q)
  rw [List.length_take] at this
  omega
 have HcL : Hid (∀ q,(ctyL (x.cl.take q)).length ≤ 6):=fun q => by
  have:=cty_len (x.cl.take q)
  rw [List.length_take] at this
  omega
 clear hx ho
 generalize typL x = R at *
 obtain ⟨w1,hw1⟩ : ∃ W,W = w0.alloc (.cells #[.int .i64 x.rt.1,.int .i64 x.rt.2.1,.int .i64 x.rt.2.2.1,.bool x.rt.2.2.2] 51):=⟨_,rfl⟩
 have HW1 : Hid (w1 = _):=hw1
 have hb1 : Below w0.heap.size w0 w1:=by rw [hw1]; exact made_below _ _ _
 have HB1 : Hid (Below w0.heap.size w0 w1):=hb1
 have HO1 : Hid (OwnE tyE w1 w0.heap.size 51 (.slice (some ⟨w0.heap.size,0,none⟩) 1 1) [x.rt]):=by rw [hw1]; exact own_ty w0 x.rt _ (Nat.le_refl _)
 obtain ⟨b0,b1,b2,b3,b4,b5,b6,b7,b8,b9,b10,b11⟩:=HC.out w1 hb1
 have HE1 : Hid (Es tyE w1 (.slice x.pa x.ps.length x.pc) x.ps):=HPs.out w1 hb1
 have hs1 : w0.heap.size ≤ w1.heap.size:=hb1.size
 clear hw1 hb1
 unfold mdV
 unfold Mt at HC
 generalize x.ca = ca at *
 generalize x.ka = ka at *
 go_enter Tryz.func81,Tryz.ntmps81
 go_wp2_with (first | rw [← HW0.out] | rw [← HW1.out] | (at_builtin; go_must (refine wpList_append_es tyE rfl (.tmp 13) (.tmp 15) 49 rfl w0.heap.size 51 _ 32 Tryz.underlying49 Tryz.info12Y rfl rfl rfl HO1.out HE1.out (by unfold maxLen; simp; omega) (by simp; omega) hs1 ?_)))
 intro v2 w2 ho2 hg2
 have HB2 : Hid (Below w0.heap.size w0 w2):=HB1.out.trans (grown_belowE HO1.out hg2 (Nat.le_refl _) HB1.out.size)
 have HO2 : Hid (OwnE tyE w2 w0.heap.size 51 v2 ([x.rt] ++ x.ps)):=ho2
 have HE2 : Hid (Es tyE w2 (.slice x.la x.ls.length x.lc) x.ls):=HLs.out w2 HB2.out
 have hs2 : w0.heap.size ≤ w2.heap.size:=HB2.out.size
 have hl2 : ([x.rt] ++ x.ps).length ≤ 7:=by simp; omega
 obtain ⟨va,vc,hv2,_,_⟩:=ho2.shape
 subst hv2
 clear ho2 hg2 c0 c1 c2 c3 c4 c5 c6 c7 c8 c9 c10 c11 b0 b1 b2 b3 b4 b5 b6 b7 b8 b9 b10 b11 HO1 HE1 HW1 hs1
 obtain ⟨c0,c1,c2,c3,c4,c5,c6,c7,c8,c9,c10,c11⟩:=HC.out w2 HB2.out
 generalize hP2 : [x.rt] ++ x.ps = P2 at *
 have HP2 : Hid ([x.rt] ++ x.ps = P2):=hP2
 clear hP2
 go_wp2_with (at_builtin; go_must (refine wpList_append_es tyE rfl (.tmp 17) (.tmp 19) 49 rfl w0.heap.size 51 _ 32 Tryz.underlying49 Tryz.info12Y rfl rfl rfl HO2.out HE2.out (by unfold maxLen; omega) (by omega) hs2 ?_))
 intro v3 w3 ho3 hg3
 have HB3 : Hid (Below w0.heap.size w0 w3):=HB2.out.trans (grown_belowE HO2.out hg3 (Nat.le_refl _) HB2.out.size)
 have hl3 : (P2 ++ x.ls).length ≤ 19:=by rw [List.length_append]; omega
 clear hg3 c0 c1 c2 c3 c4 c5 c6 c7 c8 c9 c10 c11 HO2 HE2 hs2
 obtain ⟨va3,vc3,hv3,_,_⟩:=ho3.shape
 subst hv3
 generalize hP3 : P2 ++ x.ls = P3 at *
 have HP3 : Hid (P2 ++ x.ls = P3):=hP3
 have HO3 : Hid (OwnE tyE w3 w0.heap.size 51 (.slice va3 P3.length vc3) P3):=ho3
 clear hP3 ho3
 have hcl:=(HCo.out w3 HB3.out).len
 have hkl:=(HCl.out w3 HB3.out).len
 obtain ⟨c0,c1,c2,c3,c4,c5,c6,c7,c8,c9,c10,c11⟩:=HC.out w3 HB3.out
 go_wp2_with fail
 clear c0 c1 c2 c3 c4 c5 c6 c7 c8 c9 c10 c11
 go_loopw [3,5,6,7,24] (fun lv _ _ _ z wr => ∃ i : Nat,i ≤ x.co.length∧z = .int .i64 i∧Hid (OwnE tyE wr w0.heap.size 51 lv (P3 ++ ityL (x.co.take i)))∧Hid (Below w0.heap.size w0 wr)) (fun _ _ _ _ z _ => x.co.length - (intOf z).toNat)
 case atStart => exact ⟨0,Nat.zero_le _,rfl,by show OwnE _ _ _ _ _ _; rw [show ityL (x.co.take 0) = [] from rfl,List.append_nil]; exact HO3.out,HB3.out⟩
 case round =>
  obtain ⟨i,hil0,rfl,HO,HB⟩:=hrel
  by_cases hil : i < x.co.length
  ·have hii : (i : Int) < (x.co.length : Int):=by omega
   obtain ⟨tb,off,cap,hla,_,hcm,htb,hc⟩:=(HCo.out wr HB.out).parts (by intro e; rw [e] at hil; simp at hil)
   simp only [Value.slice.injEq] at hla
   obtain ⟨hla, -,hlc⟩:=hla
   have HT : Hid (ityL (x.co.take (i + 1)) = ityL (x.co.take i) ++ (if opP x.co[i].1 = 8 then [x.co[i].2.2] else [])):=ity_take hil
   obtain ⟨hr1,hr2⟩:=HOp.out _ (List.getElem_mem hil)
   obtain ⟨k0,k1,k2,k3,k4,k5⟩:=(show El insE wr tb (off + i * 6) x.co[i] from hc i hil).cells_I
   have hpl : (P3 ++ ityL (x.co.take i)).length ≤ 200:=by
    have:=HiL.out i
    rw [List.length_append]; omega

   have HP : Hid (P3 ++ ityL (x.co.take (i + 1)) = (P3 ++ ityL (x.co.take i)) ++ (if opP x.co[i].1 = 8 then [x.co[i].2.2] else [])):=by show _ = _; rw [HT.out,List.append_assoc]
   generalize P3 ++ ityL (x.co.take i) = P at *
   have HOf : Hid (∀ W,Ans 133 #[.int .i64 x.co[i].1] W (.tuple #[.agg #[.string (opS x.co[i].1),.int .i64 (opP x.co[i].1),.int .i64 (opW x.co[i].1)],.int .i64 0])):=fun W => of_in x.co[i].1 hr1 hr2 W
   subst hla
   clear hc hlc HT hr1 hr2
   generalize x.co[i] = y at *
   generalize opS y.1 = os at *
   generalize opW y.1 = ow at *
   generalize opP y.1 = op at *
   unfold maxLen at hcm
   obtain ⟨wA,hwA⟩ : ∃ W,W = wr.alloc (.cells #[.int .i64 y.1,.int .i64 y.2.1,.int .i64 y.2.2.1,.int .i64 y.2.2.2.1,.int .i64 y.2.2.2.2.1,.bool y.2.2.2.2.2] 89):=⟨_,rfl⟩
   have HWA : Hid (wA = _):=hwA
   have hbA : Below wr.heap.size wr wA:=by rw [hwA]; exact made_below _ _ _
   have hAA : At wA wr.heap.size #[.int .i64 y.1,.int .i64 y.2.1,.int .i64 y.2.2.1,.int .i64 y.2.2.2.1,.int .i64 y.2.2.2.2.1,.bool y.2.2.2.2.2] 89:=by rw [hwA]; exact At.made _ _ _
   have HBA : Hid (Below w0.heap.size w0 wA):=bstep HB.out hbA
   have HOA : Hid (OwnE tyE wA w0.heap.size 51 u3 P):=HO.out.later hbA
   have HYA : Hid (∀ W,Below wA.heap.size wA W → At W wr.heap.size #[.int .i64 y.1,.int .i64 y.2.1,.int .i64 y.2.2.1,.int .i64 y.2.2.2.1,.int .i64 y.2.2.2.2.1,.bool y.2.2.2.2.2] 89):=fun W hW => hAA.later hW
   have a0:=hAA.cell 0
   simp at a0
   clear hwA hbA hAA
   go_wp2_with (rw [← HWA.out])
   refine Calls.mono (HOf.out wA) ?_
   rintro e w5 ⟨rfl,hb5⟩
   have hB5 : Below w0.heap.size w0 w5:=bstep HBA.out hb5
   obtain ⟨wI,hwI⟩ : ∃ W,W = w5.alloc (.cells #[.string os,.int .i64 op,.int .i64 ow] 97):=⟨_,rfl⟩
   have HWI : Hid (wI = _):=hwI
   have hbI : Below w5.heap.size w5 wI:=by rw [hwI]; exact made_below _ _ _
   have hAI : At wI w5.heap.size #[.string os,.int .i64 op,.int .i64 ow] 97:=by rw [hwI]; exact At.made _ _ _
   have i1:=hAI.cell 1
   simp at i1
   have hY:=HYA.out wI (bstep hb5 hbI)
   have y2:=hY.cell 2
   have y3:=hY.cell 3
   have y4:=hY.cell 4
   have y5:=hY.cell 5
   simp at y2 y3 y4 y5
   have HBI : Hid (Below w0.heap.size w0 wI):=bstep hB5 hbI
   have HOI : Hid (OwnE tyE wI w0.heap.size 51 u3 P):=(HOA.out.later hb5).later hbI
   clear hb5 hB5 hwI hbI hAI hY a0 k0 k1 k2 k3 k4 k5 HO HB HBA HOA HYA HOf
   by_cases h8 : op = 8
   ·subst h8
    have HP2 : Hid (P3 ++ ityL (x.co.take (i + 1)) = P ++ [y.2.2]):=by show _ = _; rw [HP.out,if_pos rfl]
    clear HP
    obtain ⟨wT,hwT⟩ : ∃ W,W = wI.alloc (.cells #[.int .i64 y.2.2.1,.int .i64 y.2.2.2.1,.int .i64 y.2.2.2.2.1,.bool y.2.2.2.2.2] 51):=⟨_,rfl⟩
    have HWT : Hid (wT = _):=hwT
    have hbT : Below wI.heap.size wI wT:=by rw [hwT]; exact made_below _ _ _
    have HYT : Hid (Es tyE wT (.slice (some ⟨wI.heap.size,0,none⟩) 1 1) [y.2.2]):=by rw [hwT]; exact one_ty wI y.2.2
    have HOT : Hid (OwnE tyE wT w0.heap.size 51 u3 P):=HOI.out.later hbT
    have HBT : Hid (Below w0.heap.size w0 wT):=bstep HBI.out hbT
    have hsT : w0.heap.size ≤ wT.heap.size:=HBT.out.size
    clear hwT hbT
    go_wp2_with (first | rw [← HWI.out] | rw [← HWT.out] | (at_builtin; go_must (refine wpList_append_es tyE rfl (.tmp 37) (.tmp 40) 49 rfl w0.heap.size 51 _ 32 Tryz.underlying49 Tryz.info12Y rfl rfl rfl HOT.out HYT.out (by unfold maxLen; simp; omega) (by simp; omega) hsT ?_; intro v6 w6 ho6 hg6; have hB6:=HBT.out.trans (grown_belowE HOT.out hg6 (Nat.le_refl _) HBT.out.size))))
    go_roundw
    case rel => exact ⟨i + 1,by omega,by go_num,by show OwnE _ _ _ _ _ _; rw [HP2.out]; exact ho6,hB6⟩
    case measure => simp [intOf]; omega
   ·have e8 : (op == 8) = false:=by simpa using h8
    have HP2 : Hid (P3 ++ ityL (x.co.take (i + 1)) = P):=by show _ = _; rw [HP.out,if_neg h8,List.append_nil]
    clear HP h8
    go_wp2_with (first | rw [← HWI.out])
    go_roundw
    case rel => exact ⟨i + 1,by omega,by go_num,by show OwnE _ _ _ _ _ _; rw [HP2.out]; exact HOI.out,HBI.out⟩
    case measure => simp [intOf]; omega
  ·have hii : ¬ (i : Int) < (x.co.length : Int):=by omega
   obtain ⟨P4,hP4⟩ : ∃ P4,P4 = P3 ++ ityL x.co:=⟨_,rfl⟩
   have HP4 : Hid (P4 = P3 ++ ityL x.co):=hP4
   have hl4 : P4.length ≤ 180:=by
    have:=HiL.out x.co.length
    rw [List.take_length] at this
    rw [hP4,List.length_append]; omega
   have HO4 : Hid (OwnE tyE wr w0.heap.size 51 u3 P4):=by
    have:=HO.out
    rw [List.take_of_length_le (by omega),← hP4] at this
    exact this
   have HB4 : Hid (Below w0.heap.size w0 wr):=HB.out
   obtain ⟨c0,c1,c2,c3,c4,c5,c6,c7,c8,c9,c10,c11⟩:=HC.out wr HB.out
   clear hP4 HO HB
   go_wp2_with fail
   clear c0 c1 c2 c3 c4 c5 c6 c7 c8 c9 c10 c11
   obtain ⟨wo,hwo⟩ : ∃ W,W = wr:=⟨_,rfl⟩
   subst hwo
   go_loopw [3,9,46] (fun lv _ z wx => ∃ j : Nat,j ≤ x.cl.length∧z = .int .i64 j∧Hid (OwnE tyE wx w0.heap.size 51 lv (P4 ++ ctyL (x.cl.take j)))∧Hid (Below w0.heap.size w0 wx)) (fun _ _ z _ => x.cl.length - (intOf z).toNat)
   case atStart => exact ⟨0,Nat.zero_le _,rfl,by show OwnE _ _ _ _ _ _; rw [show ctyL (x.cl.take 0) = [] from rfl,List.append_nil]; exact HO4.out,HB4.out⟩
   case round =>
    obtain ⟨j,hjl0,rfl,HO,HB⟩:=hrel
    by_cases hjl : j < x.cl.length
    ·have hji : (j : Int) < (x.cl.length : Int):=by omega
     obtain ⟨tb,off,cap,hla,_,hcm,htb,hc⟩:=(HCl.out wr HB.out).parts (by intro e; rw [e] at hjl; simp at hjl)
     simp only [Value.slice.injEq] at hla
     obtain ⟨hla, -,hlc⟩:=hla
     have HP : Hid (P4 ++ ctyL (x.cl.take (j + 1)) = (P4 ++ ctyL (x.cl.take j)) ++ (if x.cl[j].k = 1 then [(x.cl[j].t0,x.cl[j].t1,x.cl[j].t2,x.cl[j].t3)] else [])):=by show _ = _; rw [cty_take hjl,List.append_assoc]
     have hten:=(show El clE9 wr tb (off + j * 10) x.cl[j] from hc j hjl).ten
     have hpl : (P4 ++ ctyL (x.cl.take j)).length ≤ 200:=by
      have:=HcL.out j
      rw [List.length_append]; omega
     generalize P4 ++ ctyL (x.cl.take j) = P at *
     subst hla
     clear hc hlc
     generalize x.cl[j] = y at *
     unfold maxLen at hcm
     obtain ⟨k0,k1,k2,k3,k4,k5,k6,k7,k8,k9⟩:=hten
     obtain ⟨wA,hwA⟩ : ∃ W,W = wr.alloc (.cells #[.int .i64 y.k,.int .i64 y.tf,.int .i64 y.tt,.int .i64 y.hf,.int .i64 y.ht,.int .i64 y.fi,.int .i64 y.t0,.int .i64 y.t1,.int .i64 y.t2,.bool y.t3] 101):=⟨_,rfl⟩
     have HWA : Hid (wA = _):=hwA
     have hbA : Below wr.heap.size wr wA:=by rw [hwA]; exact made_below _ _ _
     have hAA : At wA wr.heap.size #[.int .i64 y.k,.int .i64 y.tf,.int .i64 y.tt,.int .i64 y.hf,.int .i64 y.ht,.int .i64 y.fi,.int .i64 y.t0,.int .i64 y.t1,.int .i64 y.t2,.bool y.t3] 101:=by rw [hwA]; exact At.made _ _ _
     have HBA : Hid (Below w0.heap.size w0 wA):=bstep HB.out hbA
     have HOA : Hid (OwnE tyE wA w0.heap.size 51 u3 P):=HO.out.later hbA
     have a0:=hAA.cell 0
     have a6:=hAA.cell 6
     have a7:=hAA.cell 7
     have a8:=hAA.cell 8
     have a9:=hAA.cell 9
     simp at a0 a6 a7 a8 a9
     clear hwA hbA hAA HO HB
     by_cases h1 : y.k = 1
     ·have HPa : Hid (P4 ++ ctyL (x.cl.take (j + 1)) = P ++ [(y.t0,y.t1,y.t2,y.t3)]):=by show _ = _; rw [HP.out,if_pos h1]
      obtain ⟨yk,hyk⟩ : ∃ z,z = y.k:=⟨_,rfl⟩
      rw [← hyk] at h1 k0 a0 HWA
      clear hyk HP
      subst h1
      obtain ⟨wT,hwT⟩ : ∃ W,W = wA.alloc (.cells #[.int .i64 y.t0,.int .i64 y.t1,.int .i64 y.t2,.bool y.t3] 51):=⟨_,rfl⟩
      have HWT : Hid (wT = _):=hwT
      have hbT : Below wA.heap.size wA wT:=by rw [hwT]; exact made_below _ _ _
      have HYT : Hid (Es tyE wT (.slice (some ⟨wA.heap.size,0,none⟩) 1 1) [(y.t0,y.t1,y.t2,y.t3)]):=by rw [hwT]; exact one_ty wA (y.t0,y.t1,y.t2,y.t3)
      have HOT : Hid (OwnE tyE wT w0.heap.size 51 u3 P):=HOA.out.later hbT
      have HBT : Hid (Below w0.heap.size w0 wT):=bstep HBA.out hbT
      have hsT : w0.heap.size ≤ wT.heap.size:=HBT.out.size
      clear hwT hbT
      go_wp2_with (first | rw [← HWA.out] | rw [← HWT.out] | (at_builtin; go_must (refine wpList_append_es tyE rfl (.tmp 53) (.tmp 56) 49 rfl w0.heap.size 51 _ 32 Tryz.underlying49 Tryz.info12Y rfl rfl rfl HOT.out HYT.out (by unfold maxLen; simp; omega) (by simp; omega) hsT ?_; intro v6 w6 ho6 hg6; have hB6:=HBT.out.trans (grown_belowE HOT.out hg6 (Nat.le_refl _) HBT.out.size))))
      go_roundw
      case rel => exact ⟨j + 1,by omega,by go_num,by show OwnE _ _ _ _ _ _; rw [HPa.out]; exact ho6,hB6⟩
      case measure => simp [intOf]; omega
     ·have e1 : (y.k == 1) = false:=by simpa using h1
      have HPa : Hid (P4 ++ ctyL (x.cl.take (j + 1)) = P):=by show _ = _; rw [HP.out,if_neg h1,List.append_nil]
      clear HP h1
      go_wp2_with (first | rw [← HWA.out])
      go_roundw
      case rel => exact ⟨j + 1,by omega,by go_num,by show OwnE _ _ _ _ _ _; rw [HPa.out]; exact HOA.out,HBA.out⟩
      case measure => simp [intOf]; omega
    ·have hji : ¬ (j : Int) < (x.cl.length : Int):=by omega
     have HOf : Hid (OwnE tyE wr w0.heap.size 51 u3 R):=by
      have:=HO.out
      rw [List.take_of_length_le (by omega),HP4.out,← HTy.out] at this
      exact this
     have HBf : Hid (Below w0.heap.size w0 wr):=HB.out
     clear HO HB
     go_wp2_with fail
     go_ret
     exact ⟨_,rfl,HOf.out.mono HB0.out.size,bstep HB0.out HBf.out⟩
end Go.Proofs.YthpmpdpfnlecmaaGreat
