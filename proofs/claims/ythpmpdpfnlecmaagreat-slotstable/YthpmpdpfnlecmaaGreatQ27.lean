/- Texts joined: Vir13, Tab13. -/
import Derived.Test.YthpmpdpfnlecmaaGreatQ15
import Derived.Test.YthpmpdpfnlecmaaGreatQ26
import Derived.Test.YthpmpdpfnlecmaaGreatQ25
namespace Go.Proofs.YthpmpdpfnlecmaaGreat
set_option linter.unusedVariables false
set_option linter.unusedSimpArgs false
open Go.RowKit
attribute [local go_sem ↓] Go.wp_at_zero Go.wp_at_succ
theorem GB.mth {w : World} {gb : Nat} {g : Img} (hG : GB w gb g) {q : Nat} (hq : q < g.ms.length) : ∃ tb off,g.ma = some ⟨tb,off,none⟩∧g.ms.length ≤ g.mc∧g.mc ≤ maxLen∧g.ms[q].ok w ∧
  (∀ W,Below w.heap.size w W → W.cell? ⟨tb,off + q * 12,none⟩ = some (.string g.ms[q].nm)∧W.cell? ⟨tb,off + q * 12 + 1,none⟩ = some (.int .i64 g.ms[q].ow)∧W.cell? ⟨tb,off + q * 12 + 2,none⟩ = some (.int .i64 g.ms[q].fl)∧W.cell? ⟨tb,off + q * 12 + 3,none⟩ = some (.slice g.ms[q].pa g.ms[q].ps.length g.ms[q].pc) ∧
   W.cell? ⟨tb,off + q * 12 + 4,none⟩ = some (.int .i64 g.ms[q].rt.1)∧W.cell? ⟨tb,off + q * 12 + 5,none⟩ = some (.int .i64 g.ms[q].rt.2.1)∧W.cell? ⟨tb,off + q * 12 + 6,none⟩ = some (.int .i64 g.ms[q].rt.2.2.1)∧W.cell? ⟨tb,off + q * 12 + 7,none⟩ = some (.bool g.ms[q].rt.2.2.2) ∧
   W.cell? ⟨tb,off + q * 12 + 8,none⟩ = some (.slice g.ms[q].la g.ms[q].ls.length g.ms[q].lc)∧W.cell? ⟨tb,off + q * 12 + 9,none⟩ = some (.int .i64 g.ms[q].mx)∧W.cell? ⟨tb,off + q * 12 + 10,none⟩ = some (.slice g.ms[q].ca g.ms[q].co.length g.ms[q].cc)∧W.cell? ⟨tb,off + q * 12 + 11,none⟩ = some (.slice g.ms[q].ka g.ms[q].cl.length g.ms[q].kc)):=by
 obtain ⟨tb,off,hta,h1,h2,hty⟩:=hG.md (by intro e; rw [e] at hq; simp at hq)
 refine ⟨tb,off,hta,h1,h2,hG.im.mok _ (List.getElem_mem hq),fun W hW => ?_⟩
 obtain ⟨_,hd⟩:=hty W hW
 exact (hd q hq).cells_M

set_option maxHeartbeats 2000000 in
theorem virtuals1_any {g : Img} {gb : Nat} {i : Int} {w : World} (hG : GB w gb g) (hi : imB g = true) (hn : mNum g i) :
  Calls Tryz.prog 138 #[.int .i64 i,.pointer (some ⟨gb,0,none⟩)] w fun e w' => e = .returned (.bool (!virB g i))∧Below w.heap.size w w':=by
 obtain ⟨q,rfl⟩ : ∃ q : Nat,i = q:=⟨i.toNat,by have:=numB_iff.1 hn; omega⟩
 have hq : q < g.ms.length:=by have:=numB_iff.1 hn; omega
 obtain ⟨tb,off,hma,h1,h2,_,hc⟩:=hG.mth hq
 obtain ⟨k0,k1,k2,k3,k4,k5,k6,k7,k8,k9,k10,k11⟩:=hc w (Below.refl _ _)
 have HH : Hid (Ans 84 #[mdV g.ms[q],.int .i64 2] w (.bool (bitB g.ms[q].fl 2))):=(has13_any _ (mfl_bound hi hq) w).2.1
 have HV : Hid (virB g (q : Int) = bitB g.ms[q].fl 2):=by show _ = _; unfold virB; rw [mflI_at hq]
 have hqi : (q : Int) < (g.ms.length : Int):=by omega
 have c2:=hG.cells.2.2.1
 rw [hma] at c2
 unfold maxLen at h2
 unfold mdV at HH
 clear hG hi hn hc hma
 generalize g.ms[q] = x at *
 generalize virB g (q : Int) = R at *
 generalize bitB x.fl 2 = b at *
 go_enter Tryz.func138,Tryz.ntmps138
 go_wp2_with fail
 refine Calls.mono HH.out ?_
 rintro e w1 ⟨rfl,hb1⟩
 have HB1 : Hid (Below w.heap.size w w1):=hb1
 clear hb1 k0 k1 k2 k3 k4 k5 k6 k7 k8 k9 k10 k11 HH
 go_wp2_with fail
 go_ret
 exact ⟨ret_bool (by rw [HV.out]),HB1.out⟩

set_option maxHeartbeats 2000000 in
theorem virtuals_any {g : Img} {t : Int} {w : World} (hg : Im w g) (hi : imB g = true) :
  Calls Tryz.prog 93 #[imA4 g,.int .i64 t] w fun e w' => ∃ v,e = .returned v∧OwnI w' w.heap.size v (virL g t)∧Below w.heap.size w w':=by
 obtain ⟨w0,HW0,HB0,HG,HC,HI,c0,c1,c2,c3⟩:=img_head hg
 have hln:=im_len hi
 have HMt : Hid (Calls Tryz.prog 47 #[imA4 g,.int .i64 t] w0 fun e w' => ∃ v,e = .returned v∧OwnI w' w0.heap.size v (mtdN g t)∧Below w0.heap.size w0 w'):=methods_any (HI.out w0 (Below.refl _ _)) hi
 have HTl : Hid (Tells Tryz.prog intV w0 138 #[] #[.pointer (some ⟨w.heap.size,0,none⟩)] (fun i => !virB g i) (mtdN g t)) :=
  ⟨run_enter9 Tryz.func138 (by kernel_rfl) rfl,fun W hW x hx => by
   have:=virtuals1_any (HG.out.later hW) hi (show mNum g x by
    obtain ⟨q,hq,e,_⟩:=mtd_mem hx
    rw [e]; exact numB_iff.2 (by omega))
   simpa [intV] using this⟩
 have HDl : Hid (∀ v W,OwnI W w0.heap.size v (mtdN g t) → Below w0.heap.size w0 W → Calls Tryz.prog 137 #[v,.func (.func 138) #[] #[.pointer (some ⟨w.heap.size,0,none⟩)]] W fun e w' => ∃ v',e = .returned v'∧OwnI w' w0.heap.size v' (virL g t)∧Below w0.heap.size w0 w'):=fun v W hv hb => by
  have hml : (mtdN g t).length ≤ 100000:=by
   unfold mtdN
   split
   ·have:=pkN_len (fun x : MD => decide (x.ow = t)) g.ms 0
    omega
   ·simp
  have:=delete13_any hv hb HTl.out hml
  rw [show (mtdN g t).filter (fun x => !(fun i => !virB g i) x) = virL g t from by unfold virL; simp] at this
  exact this
 unfold imA4 at HMt ⊢
 clear hg hi HC HTl
 go_enter Tryz.func93,Tryz.ntmps93
 go_wp2_with (rw [← HW0.out])
 refine Calls.mono HMt.out ?_
 rintro e w1 ⟨v,rfl,hv,hb1⟩
 have HDq : Hid _:=HDl.out v w1 hv hb1
 obtain ⟨va,vc,hvs,_,_⟩:=hv.is.shape
 subst hvs
 clear hv hb1 c0 c1 c2 c3 HMt HDl
 go_wp2_with fail
 refine Calls.mono HDq.out ?_
 rintro e w2 ⟨v2,rfl,hv2,hb2⟩
 have HO2 : Hid (OwnI w2 w0.heap.size v2 (virL g t)):=hv2
 have HB2 : Hid (Below w0.heap.size w0 w2):=hb2
 obtain ⟨va2,vc2,hvs2,_,_⟩:=hv2.is.shape
 clear hv2 hb2 HDq
 subst hvs2
 go_wp2_with fail
 go_ret
 exact ⟨_,rfl,HO2.out.mono HB0.out.size,bstep HB0.out HB2.out⟩
def tbC (g : Img) (mv : Value) : Array Value:=#[.slice g.ta g.ts.length g.tc,.slice g.fa g.fs.length g.fc,.slice g.ma g.ms.length g.mc,.int .i64 g.en,mv]
def tbV (g : Img) (mv : Value) : Value := .agg #[.slice g.ta g.ts.length g.tc,.slice g.fa g.fs.length g.fc,.slice g.ma g.ms.length g.mc,.int .i64 g.en,mv]
abbrev Tb5 (W : World) (b : Nat) (g : Img) (mv : Value) : Prop:=W.cell? ⟨b,0,none⟩ = some (.slice g.ta g.ts.length g.tc)∧W.cell? ⟨b,1,none⟩ = some (.slice g.fa g.fs.length g.fc)∧W.cell? ⟨b,2,none⟩ = some (.slice g.ma g.ms.length g.mc)∧W.cell? ⟨b,3,none⟩ = some (.int .i64 g.en)∧W.cell? ⟨b,4,none⟩ = some mv
theorem Tb5.of {W : World} {b : Nat} {g : Img} {mv : Value} {t : TypeId} (h : At W b (tbC g mv) t) : Tb5 W b g mv:=⟨h.cell 0,h.cell 1,h.cell 2,h.cell 3,h.cell 4⟩
abbrev MtA (W : World) (b o : Nat) (x : MD) : Prop:=W.cell? ⟨b,o,none⟩ = some (.string x.nm)∧W.cell? ⟨b,o + 1,none⟩ = some (.int .i64 x.ow)∧W.cell? ⟨b,o + 2,none⟩ = some (.int .i64 x.fl)∧W.cell? ⟨b,o + 3,none⟩ = some (.slice x.pa x.ps.length x.pc) ∧
 W.cell? ⟨b,o + 4,none⟩ = some (.int .i64 x.rt.1)∧W.cell? ⟨b,o + 5,none⟩ = some (.int .i64 x.rt.2.1)∧W.cell? ⟨b,o + 6,none⟩ = some (.int .i64 x.rt.2.2.1)∧W.cell? ⟨b,o + 7,none⟩ = some (.bool x.rt.2.2.2)∧W.cell? ⟨b,o + 8,none⟩ = some (.slice x.la x.ls.length x.lc)∧W.cell? ⟨b,o + 9,none⟩ = some (.int .i64 x.mx) ∧
 W.cell? ⟨b,o + 10,none⟩ = some (.slice x.ca x.co.length x.cc)∧W.cell? ⟨b,o + 11,none⟩ = some (.slice x.ka x.cl.length x.kc)
theorem Im.mth {w : World} {g : Img} (hg : Im w g) {q : Nat} (hq : q < g.ms.length) : ∃ tb off,g.ma = some ⟨tb,off,none⟩∧g.ms.length ≤ g.mc∧g.mc ≤ maxLen∧∀ W,Below w.heap.size w W → ∀ k (hk : k < g.ms.length),MtA W tb (off + k * 12) g.ms[k]:=by
 obtain ⟨tb,off,cap,hv,h1,h2,hb,hc⟩:=hg.ms.parts (by intro e; rw [e] at hq; simp at hq)
 simp only [Value.slice.injEq] at hv
 obtain ⟨ha,_,hcap⟩:=hv
 subst hcap
 exact ⟨tb,off,ha,h1,h2,fun W hW k hk => ((show El mdE w tb (off + k * 12) g.ms[k] from hc k hk).below hW hb).cells_M⟩
theorem mNum_at {g : Img} {i : Int} (h : mNum g i) : ∃ (q : Nat) (hq : q < g.ms.length),i = (q : Int):=by
 have:=numB_iff.1 h
 exact ⟨i.toNat,by omega,by omega⟩

set_option maxHeartbeats 4000000 in
set_option maxRecDepth 20000 in
theorem firstAlike1_any {g : Img} {xb mb : Nat} {i m : Int} {mv : Value} {w : World} (hX : At w xb (tbC g mv) 77) (hM : At w mb #[.int .i64 m] 3) (hg : Im w g) (hi : mNum g i) (hm : mNum g m) :
  Ans 215 #[.int .i64 i,.pointer (some ⟨xb,0,none⟩),.pointer (some ⟨mb,0,none⟩)] w (.bool (smI g i m)):=by
 obtain ⟨q,hq,rfl⟩:=mNum_at hi
 obtain ⟨k,hk,rfl⟩:=mNum_at hm
 obtain ⟨tb,off,hma,h1,h2,hc⟩:=hg.mth hq
 rw [smI_at hq hk]
 have HSm : Hid (∀ W,Below w.heap.size w W → Ans 130 #[mdV g.ms[q],mdV g.ms[k]] W (.bool (smM g.ms[q] g.ms[k]))):=fun W hW => alike13_any ((hg.later hW).mok _ (List.getElem_mem hq)) ((hg.later hW).mok _ (List.getElem_mem hk))
 have HQ : Hid (∀ W,Below w.heap.size w W → W.cell? ⟨xb,2,none⟩ = some (.slice (some ⟨tb,off,none⟩) g.ms.length g.mc)∧W.cell? ⟨mb,0,none⟩ = some (.int .i64 (k : Int))∧MtA W tb (off + q * 12) g.ms[q]∧MtA W tb (off + k * 12) g.ms[k]):=fun W hW =>
  ⟨by have:=(hX.later hW).cell 2; rw [← hma]; exact this,(hM.later hW).cell 0,hc W hW q hq,hc W hW k hk⟩
 have hqi : (q : Int) < (g.ms.length : Int):=by omega
 have hki : (k : Int) < (g.ms.length : Int):=by omega
 unfold maxLen at h2
 unfold mdV at HSm
 clear hX hM hg hi hm hc hma
 generalize smM g.ms[q] g.ms[k] = r at *
 generalize g.ms[q] = x at *
 generalize g.ms[k] = y at *
 go_enter Tryz.func215,Tryz.ntmps215
 go_wp2_with fail
 go_region_held3 (fun W : World => W.cell? ⟨xb,2,none⟩ = some (.slice (some ⟨tb,off,none⟩) g.ms.length g.mc)∧W.cell? ⟨mb,0,none⟩ = some (.int .i64 (k : Int))∧MtA W tb (off + q * 12) x∧MtA W tb (off + k * 12) y)
  (first | (exact HQ.out _ hB1) | (exact HQ.out _ (bdrew _)))
  (first | (go_at_call 130; refine (HSm.out _ (bdrew _)).mono ?_; rintro e w1 ⟨rfl,hz1⟩; have hB1 : Below w.heap.size w w1:=bstep (bdrew _) hz1))
 rename_i hheld
 clear hheld
 have HB1 : Hid (Below w.heap.size w w1):=hB1
 clear hz1 hB1
 go_wp2_with fail
 go_ret
 exact ⟨rfl,HB1.out⟩

set_option maxHeartbeats 2000000 in
theorem firstAlike_any {g : Img} {m : Int} {mv : Value} {L : List Int} {w : World} (hg : Im w g) (hL : Is w mv L) (hLn : ∀ x ∈ L,mNum g x) (hm : mNum g m) :
  Ans 184 #[tbV g mv,.int .i64 m] w (.int .i64 (fidI (fun k => smI g k m) L)):=by
 obtain ⟨w0,hw0⟩ : ∃ W,W = (w.alloc (.cells (tbC g mv) 77)).alloc (.cells #[.int .i64 m] 3):=⟨_,rfl⟩
 have HW0 : Hid (w0 = _):=hw0
 obtain ⟨hb0,hat⟩:=two_boxes hw0
 have HB0 : Hid (Below w.heap.size w w0):=hb0
 have HT5 : Hid (∀ W,Below w0.heap.size w0 W → Tb5 W w.heap.size g mv):=fun W hW => Tb5.of (hat W hW).1
 have HTl : Tells Tryz.prog intV w0 215 #[] #[.pointer (some ⟨w.heap.size,0,none⟩),.pointer (some ⟨w.heap.size + 1,0,none⟩)] (fun k => smI g k m) L :=
  ⟨run_enter9 Tryz.func215 (by kernel_rfl) rfl,fun W hW x hx => by
   have:=firstAlike1_any (hat W hW).1 (hat W hW).2 ((hg.later hb0).later hW) (hLn x hx) hm
   simpa [intV] using this⟩
 have HIx : Hid (Ans 183 #[mv,.func (.func 215) #[] #[.pointer (some ⟨w.heap.size,0,none⟩),.pointer (some ⟨w.heap.size + 1,0,none⟩)]] w0 (.int .i64 (fidI (fun k => smI g k m) L))):=indexF13_any (hL.later hb0) HTl
 obtain ⟨ma,mc,hmv,_,_⟩:=hL.shape
 subst hmv
 obtain ⟨c0,c1,c2,c3,c4⟩:=HT5.out w0 (Below.refl _ _)
 unfold tbC at HW0
 clear hw0 hb0 hat HTl hg hL hLn hm
 generalize fidI (fun k => smI g k m) L = R at *
 unfold tbV
 go_enter Tryz.func184,Tryz.ntmps184
 go_wp2_with (rw [← HW0.out])
 refine Calls.mono HIx.out ?_
 rintro e w1 ⟨rfl,hb1⟩
 have HB1 : Hid (Below w0.heap.size w0 w1):=hb1
 clear hb1 c0 c1 c2 c3 c4 HIx
 go_wp2_with fail
 go_ret
 exact ⟨rfl,bstep HB0.out HB1.out⟩

def plcJ (g : Img) (l : List Int) (m : Int) : Int:=if bitB (mflI g m) 8 = true then -1 else fidI (fun k => smI g k m) l
theorem plcJ_cases (g : Img) (l : List Int) (m : Int) : (plcJ g l m = -1∧putL g l m = l ++ [m]) ∨ ∃ (q : Nat) (hq : q < l.length),plcJ g l m = (q : Int)∧putL g l m = l.set q m:=by
 unfold plcJ putL plcO
 cases hb : bitB (mflI g m) 8 with
 | true => exact Or.inl ⟨by rw [if_pos rfl],by rw [if_pos rfl]⟩
 | false =>
  rw [if_neg (by decide),if_neg (by decide)]
  unfold fidI
  cases hf : l.findIdx? (fun k => smI g k m) with
  | none => exact Or.inl ⟨rfl,rfl⟩
  | some q =>
   have:=hf
   rw [List.findIdx?_eq_some_iff_getElem] at this
   obtain ⟨hq,_⟩:=this
   exact Or.inr ⟨q,hq,rfl,rfl⟩

structure Cls13 (win w : World) (cb : Nat) (g : Img) (mv : Value) (L : List Int) : Prop where
 im : Im win g
 bel : Below win.heap.size win w
 box : At w cb (tbC g mv) 105
 own : OwnI w win.heap.size mv L
 lo : win.heap.size ≤ cb
theorem Cls13.later {win w w' : World} {cb : Nat} {g : Img} {mv : Value} {L : List Int} (h : Cls13 win w cb g mv L) (hb : Below w.heap.size w w') : Cls13 win w' cb g mv L:=⟨h.im,bstep h.bel hb,h.box.later hb,h.own.later hb,h.lo⟩

set_option maxHeartbeats 4000000 in
theorem placeFor_any {win w : World} {cb : Nat} {g : Img} {mv : Value} {L : List Int} {m : Int} (h : Cls13 win w cb g mv L) (hi : imB g = true) (hLn : ∀ x ∈ L,mNum g x) (hm : mNum g m) :
  Ans 139 #[.pointer (some ⟨cb,0,none⟩),.int .i64 m] w (.int .i64 (plcJ g L m)):=by
 have hg:=h.im.later h.bel
 have HF : Hid (∀ W,Below w.heap.size w W → Ans 184 #[tbV g mv,.int .i64 m] W (.int .i64 (fidI (fun k => smI g k m) L))):=fun W hW => firstAlike_any (hg.later hW) (h.own.is.later hW) hLn hm
 obtain ⟨k,hk,rfl⟩:=mNum_at hm
 obtain ⟨tb,off,hma,h1,h2,hc⟩:=hg.mth hk
 obtain ⟨k0,k1,k2,k3,k4,k5,k6,k7,k8,k9,k10,k11⟩:=hc w (Below.refl _ _) k hk
 have HH : Hid (Ans 84 #[mdV g.ms[k],.int .i64 8] w (.bool (bitB g.ms[k].fl 8))):=(has13_any _ (mfl_bound hi hk) w).2.2.2.1
 have HT5 : Hid (∀ W,Below w.heap.size w W → Tb5 W cb g mv):=fun W hW => Tb5.of (h.box.later hW)
 have HR : Hid (plcJ g L (k : Int) = if bitB g.ms[k].fl 8 = true then -1 else fidI (fun j => smI g j (k : Int)) L):=by show _ = _; unfold plcJ; rw [mflI_at hk]
 have hki : (k : Int) < (g.ms.length : Int):=by omega
 obtain ⟨ma,mc,hmv,_,_⟩:=h.own.is.shape
 subst hmv
 obtain ⟨c0,c1,c2,c3,c4⟩:=HT5.out w (Below.refl _ _)
 rw [hma] at c2
 have HC2 : Hid (g.ma = some ⟨tb,off,none⟩):=hma
 unfold maxLen at h2
 unfold mdV at HH
 unfold tbV at HF
 clear h hg hi hLn hm hc hma
 generalize g.ms[k] = x at *
 generalize plcJ g L (k : Int) = R at *
 generalize fidI (fun j => smI g j (k : Int)) L = Q at *
 generalize bitB x.fl 8 = b at *
 go_enter Tryz.func139,Tryz.ntmps139
 go_wp2_with fail
 refine Calls.mono HH.out ?_
 rintro e w1 ⟨rfl,hb1⟩
 have HB1 : Hid (Below w.heap.size w w1):=hb1
 clear hb1 c0 c1 c2 c3 c4 k0 k1 k2 k3 k4 k5 k6 k7 k8 k9 k10 k11 HH
 cases b with
 | true =>
  have HR2 : Hid (R = -1):=by show _ = _; rw [HR.out]; rfl
  go_wp2_with fail
  go_ret
  exact ⟨ret_int HR2.out.symm,HB1.out⟩
 | false =>
  have HR2 : Hid (R = Q):=by show _ = _; rw [HR.out]; rfl
  obtain ⟨c0,c1,c2,c3,c4⟩:=HT5.out w1 HB1.out
  go_wp2_with fail
  refine Calls.mono (HF.out w1 HB1.out) ?_
  rintro e w2 ⟨rfl,hb2⟩
  have HB2 : Hid (Below w.heap.size w w2):=bstep HB1.out hb2
  clear hb2 c0 c1 c2 c3 c4
  go_wp2_with fail
  go_ret
  exact ⟨ret_int HR2.out.symm,HB2.out⟩

structure Kept13 (w w' : World) (cb : Nat) (mv mv' : Value) : Prop where
 size : w.heap.size ≤ w'.heap.size
 block : ∀ k,k < w.heap.size → k ≠ cb → mv.ownBlock ≠ some k → w'.heap[k]? = w.heap[k]?
 place : ∀ k,mv'.ownBlock = some k → mv.ownBlock = some k ∨ w.heap.size ≤ k

set_option maxHeartbeats 8000000 in
theorem put13_any {win w : World} {cb : Nat} {g : Img} {mv : Value} {L : List Int} {m : Int} (h : Cls13 win w cb g mv L) (hi : imB g = true) (hLn : ∀ x ∈ L,mNum g x) (hll : L.length ≤ 10000) (hm : mNum g m) :
  Calls Tryz.prog 94 #[.pointer (some ⟨cb,0,none⟩),.int .i64 m] w fun e w' => e = .returned (.tuple #[])∧∃ mv',Cls13 win w' cb g mv' (putL g L m)∧Kept13 w w' cb mv mv':=by
 have HP : Hid (Ans 139 #[.pointer (some ⟨cb,0,none⟩),.int .i64 m] w (.int .i64 (plcJ g L m))):=placeFor_any h hi hLn hm
 have HC : Hid (Cls13 win w cb g mv L):=h
 rcases plcJ_cases g L m with ⟨hj,hp⟩ | ⟨q,hq,hj,hp⟩
 ·rw [hj] at HP
  rw [hp]
  obtain ⟨M,hM⟩ : ∃ M,M = L ++ [m]:=⟨_,rfl⟩
  rw [← hM]
  have HM : Hid (M = L ++ [m]):=hM
  clear hj hp h hi hLn hm hM
  go_enter Tryz.func94,Tryz.ntmps94
  go_wp2_with fail
  refine Calls.mono HP.out ?_
  rintro e w1 ⟨rfl,hb1⟩
  have HB1 : Hid (Below w.heap.size w w1):=hb1
  have HC1 : Hid (Cls13 win w1 cb g mv L):=HC.out.later hb1
  obtain ⟨c0,c1,c2,c3,c4⟩:=Tb5.of HC1.out.box
  obtain ⟨ma,mc,hmv,_,hmc⟩:=HC1.out.own.is.shape
  subst hmv
  unfold maxLen at hmc
  clear hb1 HP
  obtain ⟨wA,hwA⟩ : ∃ W,W = w1.alloc (.cells #[.int .i64 m] 3):=⟨_,rfl⟩
  have HWA : Hid (wA = _):=hwA
  have hbA : Below w1.heap.size w1 wA:=by rw [hwA]; exact made_below _ _ _
  have HBA : Hid (Below w1.heap.size w1 wA):=hbA
  have HCA : Hid (Cls13 win wA cb g (.slice ma L.length mc) L):=HC1.out.later hbA
  have HSr : Hid (Src Tryz.prog 1 31 (.slice (some ⟨w1.heap.size,0,none⟩) 1 1) 1 [.int .i64 m] wA):=by rw [hwA]; exact one_int w1 m _ rfl
  have hmeltA:=HCA.out.box.melt
  obtain ⟨a0,a1,a2,a3,a4⟩:=Tb5.of HCA.out.box
  clear hwA hbA
  go_wp2_with (first | rw [← HWA.out] | (at_builtin; go_must (refine wpList_append_int_at rfl (.tmp 23) (.tmp 25) rfl win.heap.size rfl rfl HCA.out.own HSr.out (by omega) (HCA.out.bel.size) ?_)))
  intro v5 w5 ho5 hg5 hp5
  have hbx5 : At w5 cb (tbC g (.slice ma L.length mc)) 105:=HCA.out.box.grownI HCA.out.own (by decide) hg5
  have HBe5 : Hid (Below win.heap.size win w5):=HCA.out.bel.trans (grown_below11 HCA.out.own hg5 (Nat.le_refl _) HCA.out.bel.size)
  rw [← HM.out] at ho5
  have HO5 : Hid (OwnI w5 win.heap.size v5 M):=ho5
  have HX5 : Hid (At w5 cb (tbC g (.slice ma L.length mc)) 105):=hbx5
  have HG5 : Hid (wA.grownBy w5 (Value.slice ma L.length mc).ownBlock):=hg5
  have HPl : Hid (v5.ownBlock = (Value.slice ma L.length mc).ownBlock ∨ v5.ownBlock = some wA.heap.size):=hp5
  obtain ⟨va,vc,hv5,_,_⟩:=ho5.is.shape
  subst hv5
  have b4 : w5.cell? ⟨cb,4,none⟩ = some (.slice ma L.length mc):=hbx5.cell 4
  have hmelt5:=hbx5.melt
  clear ho5 hg5 hp5 hbx5 a0 a1 a2 a3 a4 c0 c1 c2 c3 c4
  go_wp2_with fail
  go_end0
  have hne : (Value.slice va M.length vc).ownBlock ≠ some cb:=HO5.out.ne HX5.out (by decide)
  refine ⟨rfl,.slice va M.length vc,⟨HC.out.im, ?_, ?_, ?_,HC.out.lo⟩,⟨?_,fun k h1 h2 h3 => ?_,fun k hk => ?_⟩⟩
  ·exact HBe5.out.setCell HC.out.lo _
  ·have:=HX5.out.set 4 (.slice va M.length vc)
   exact this
  ·exact HO5.out.of_block fun k hk _ => Below.heap_setCell _ _ _ _ (fun (e : k = cb) => hne (e ▸ hk))
  ·have s1:=HB1.out.size
   have s2:=HBA.out.size
   have s3:=HG5.out.size
   simp; omega
  ·have s1:=HB1.out.size
   rw [Below.heap_setCell _ _ _ _ h2,HG5.out.block k (Nat.lt_of_lt_of_le h1 (Nat.le_trans s1 HBA.out.size)) (fun e => h3 e.symm),HBA.out.block k (by omega),HB1.out.block k h1]
  ·rcases HPl.out with e | e
   ·exact Or.inl (e ▸ hk)
   ·rw [e] at hk
    refine Or.inr ?_
    have s1:=HB1.out.size
    have s2:=HBA.out.size
    simp at hk
    omega
 ·rw [hj] at HP
  rw [hp]
  obtain ⟨g0,cap,hv,hrow,hg0,hgs,hlc,hcm⟩:=IRow.of h.own (by intro e; rw [e] at hq; simp at hq)
  subst hv
  have hqn : ((q : Int) != -1) = true:=by rw [bne_iff_ne]; omega
  have hqi : (q : Int) < (L.length : Int):=by omega
  have HQL : Hid (q < L.length):=hq
  have HG0 : Hid (win.heap.size ≤ g0):=hg0
  unfold maxLen at hcm
  clear hj hp h hi hLn hm hrow hq hg0
  go_enter Tryz.func94,Tryz.ntmps94
  go_wp2_with fail
  refine Calls.mono HP.out ?_
  rintro e w1 ⟨rfl,hb1⟩
  have HB1 : Hid (Below w.heap.size w w1):=hb1
  have HC1 : Hid (Cls13 win w1 cb g (.slice (some ⟨g0,0,none⟩) L.length cap) L):=HC.out.later hb1
  have HR1 : Hid (IRow w1 win.heap.size g0 cap L):=HC1.out.own
  obtain ⟨c0,c1,c2,c3,c4⟩:=Tb5.of HC1.out.box
  obtain ⟨old,cq⟩ : ∃ old,w1.cell? ⟨g0,q,none⟩ = some (.int .i64 old):=⟨_,HR1.out.cell q HQL.out⟩
  have hmelt:=HR1.out.melt
  clear hb1 HP
  go_wp2_with fail
  refine bodyPost_ret (results_none rfl _ _ _) rfl ?_
  have hne : g0 ≠ cb:=fun e => HC1.out.own.ne HC1.out.box (by decide) (by rw [← e]; rfl)
  have HR3:=HR1.out.set q m
  refine ⟨rfl,.slice (some ⟨g0,0,none⟩) L.length cap,⟨HC.out.im,HC1.out.bel.setCell HG0.out _,HC1.out.box.other (fun e => hne e.symm) _, ?_,HC.out.lo⟩,⟨?_,fun k h1 h2 h3 => ?_,fun k hk => Or.inl hk⟩⟩
  ·have : OwnI (w1.setCell ⟨g0,q,none⟩ (.int .i64 m)) win.heap.size (.slice (some ⟨g0,0,none⟩) (L.set q m).length cap) (L.set q m):=HR3
   rw [List.length_set] at this
   exact this
  ·have:=HB1.out.size
   simpa using this
  ·rw [Below.heap_setCell _ _ _ _ (fun e => h3 (by rw [e]; rfl)),HB1.out.block k h1]
end Go.Proofs.YthpmpdpfnlecmaaGreat
