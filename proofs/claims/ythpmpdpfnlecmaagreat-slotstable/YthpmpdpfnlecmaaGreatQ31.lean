/- Texts joined: ChkNamed11, ChkNames11, RefName6, RefOf6, RefFits6. -/
import Derived.Test.YthpmpdpfnlecmaaGreatQ26
import Derived.Test.YthpmpdpfnlecmaaGreatQ02
import Derived.Laws.DeepStrings4
import Derived.Deep.RegionHeld3
import Derived.Deep.RegionLaw
namespace Go.Proofs.YthpmpdpfnlecmaaGreat
set_option linter.unusedVariables false
set_option linter.unusedSimpArgs false
open Go.RowKit
attribute [local go_sem ↓] Go.wp_at_zero Go.wp_at_succ
set_option maxHeartbeats 2000000 in
theorem named1_any {g : Img} {gb i j : Nat} {w : World} (hG : GB w gb g) (hi : i < g.fs.length) (hj : j < g.fs.length) :
  Calls Tryz.prog 164 #[.int .i64 i,.int .i64 j,.pointer (some ⟨gb,0,none⟩)] w fun e w' => e = .returned (.bool (decide (g.fs[i].nm ≠ g.fs[j].nm)))∧Below w.heap.size w w':=by
 obtain ⟨tb,off,hta,h1,h2,hty⟩:=hG.fd (by intro e; rw [e] at hi; simp at hi)
 obtain ⟨d1,hd⟩:=hty w (Below.refl _ _)
 obtain ⟨k0,_⟩:=(hd i hi).cells_F
 obtain ⟨l0,_⟩:=(hd j hj).cells_F
 unfold maxLen at h2
 have hii : (i : Int) < (g.fs.length : Int):=by omega
 have hji : (j : Int) < (g.fs.length : Int):=by omega
 have hs:=str_dec g.fs[i].nm g.fs[j].nm
 have HR : Hid (decide (g.fs[i].nm ≠ g.fs[j].nm) = !decide (g.fs[i].nm = g.fs[j].nm)):=by show _ = _; simp
 clear hta hG hty hd
 generalize decide (g.fs[i].nm ≠ g.fs[j].nm) = F at *
 generalize decide (g.fs[i].nm = g.fs[j].nm) = r at *
 generalize g.fs[i].nm = n1 at *
 generalize g.fs[j].nm = n2 at *
 go_enter Tryz.func164,Tryz.ntmps164
 go_wp2_with fail
 go_quiet (fail)
 go_wp2_with fail
 go_ret
 exact ⟨ret_bool HR.out.symm,Below.drewN (Below.refl _ _) _⟩

set_option maxHeartbeats 4000000 in
set_option maxRecDepth 20000 in
theorem named2_any {g : Img} {gb i j : Nat} {w : World} (hG : GB w gb g) (hi : i < g.ms.length) (hj : j < g.ms.length) :
  Calls Tryz.prog 165 #[.int .i64 i,.int .i64 j,.pointer (some ⟨gb,0,none⟩)] w fun e w' => e = .returned (.bool (!smM g.ms[i] g.ms[j]))∧Below w.heap.size w w':=by
 have HSm : Hid (∀ W,Below w.heap.size w W → Calls Tryz.prog 166 #[mdV g.ms[i],mdV g.ms[j]] W fun e w' => e = .returned (.bool (smM g.ms[i] g.ms[j]))∧Below W.heap.size W w'):=fun W hW => isSame_any ((hG.im.later hW).mok _ (List.getElem_mem hi)) ((hG.im.later hW).mok _ (List.getElem_mem hj))
 obtain ⟨tb,off,hta,h1,h2,hty⟩:=hG.md (by intro e; rw [e] at hi; simp at hi)
 have HK : Hid (∀ W,Below w.heap.size w W → W.cell? ⟨gb,2,none⟩ = some (.slice (some ⟨tb,off,none⟩) g.ms.length g.mc)∧El mdE W tb (off + i * 12) g.ms[i]∧El mdE W tb (off + j * 12) g.ms[j]):=fun W hW => ⟨(hty W hW).1,(hty W hW).2 i hi,(hty W hW).2 j hj⟩
 unfold maxLen at h2
 have hii : (i : Int) < (g.ms.length : Int):=by omega
 have hji : (j : Int) < (g.ms.length : Int):=by omega
 clear hta hG hty
 generalize smM g.ms[i] g.ms[j] = r at *
 generalize g.ms[i] = x at *
 generalize g.ms[j] = y at *
 have HQ : Hid (∀ W,Below w.heap.size w W → W.cell? ⟨gb,2,none⟩ = some (.slice (some ⟨tb,off,none⟩) g.ms.length g.mc)∧W.cell? ⟨tb,off + i * 12,none⟩ = some (.string x.nm)∧W.cell? ⟨tb,off + i * 12 + 1,none⟩ = some (.int .i64 x.ow)∧W.cell? ⟨tb,off + i * 12 + 2,none⟩ = some (.int .i64 x.fl)∧W.cell? ⟨tb,off + i * 12 + 3,none⟩ = some (.slice x.pa x.ps.length x.pc)∧W.cell? ⟨tb,off + i * 12 + 4,none⟩ = some (.int .i64 x.rt.1)∧W.cell? ⟨tb,off + i * 12 + 5,none⟩ = some (.int .i64 x.rt.2.1)∧W.cell? ⟨tb,off + i * 12 + 6,none⟩ = some (.int .i64 x.rt.2.2.1)∧W.cell? ⟨tb,off + i * 12 + 7,none⟩ = some (.bool x.rt.2.2.2)∧W.cell? ⟨tb,off + i * 12 + 8,none⟩ = some (.slice x.la x.ls.length x.lc)∧W.cell? ⟨tb,off + i * 12 + 9,none⟩ = some (.int .i64 x.mx)∧W.cell? ⟨tb,off + i * 12 + 10,none⟩ = some (.slice x.ca x.co.length x.cc)∧W.cell? ⟨tb,off + i * 12 + 11,none⟩ = some (.slice x.ka x.cl.length x.kc)∧W.cell? ⟨tb,off + j * 12,none⟩ = some (.string y.nm)∧W.cell? ⟨tb,off + j * 12 + 1,none⟩ = some (.int .i64 y.ow)∧W.cell? ⟨tb,off + j * 12 + 2,none⟩ = some (.int .i64 y.fl)∧W.cell? ⟨tb,off + j * 12 + 3,none⟩ = some (.slice y.pa y.ps.length y.pc)∧W.cell? ⟨tb,off + j * 12 + 4,none⟩ = some (.int .i64 y.rt.1)∧W.cell? ⟨tb,off + j * 12 + 5,none⟩ = some (.int .i64 y.rt.2.1)∧W.cell? ⟨tb,off + j * 12 + 6,none⟩ = some (.int .i64 y.rt.2.2.1)∧W.cell? ⟨tb,off + j * 12 + 7,none⟩ = some (.bool y.rt.2.2.2)∧W.cell? ⟨tb,off + j * 12 + 8,none⟩ = some (.slice y.la y.ls.length y.lc)∧W.cell? ⟨tb,off + j * 12 + 9,none⟩ = some (.int .i64 y.mx)∧W.cell? ⟨tb,off + j * 12 + 10,none⟩ = some (.slice y.ca y.co.length y.cc)∧W.cell? ⟨tb,off + j * 12 + 11,none⟩ = some (.slice y.ka y.cl.length y.kc)):=fun W hW => by
  obtain ⟨h0,hx,hy⟩:=HK.out W hW
  obtain ⟨a0,a1,a2,a3,a4,a5,a6,a7,a8,a9,a10,a11⟩:=hx.cells_M
  obtain ⟨b0,b1,b2,b3,b4,b5,b6,b7,b8,b9,b10,b11⟩:=hy.cells_M
  exact ⟨h0,a0,a1,a2,a3,a4,a5,a6,a7,a8,a9,a10,a11,b0,b1,b2,b3,b4,b5,b6,b7,b8,b9,b10,b11⟩
 clear HK
 unfold mdV at HSm
 obtain ⟨h0,a0,a1,a2,a3,a4,a5,a6,a7,a8,a9,a10,a11,b0,b1,b2,b3,b4,b5,b6,b7,b8,b9,b10,b11⟩:=HQ.out w (Below.refl _ _)
 go_enter Tryz.func165,Tryz.ntmps165
 go_wp2_with fail
 go_region_held3 (fun W : World => W.cell? ⟨gb,2,none⟩ = some (.slice (some ⟨tb,off,none⟩) g.ms.length g.mc)∧W.cell? ⟨tb,off + i * 12,none⟩ = some (.string x.nm)∧W.cell? ⟨tb,off + i * 12 + 1,none⟩ = some (.int .i64 x.ow)∧W.cell? ⟨tb,off + i * 12 + 2,none⟩ = some (.int .i64 x.fl)∧W.cell? ⟨tb,off + i * 12 + 3,none⟩ = some (.slice x.pa x.ps.length x.pc)∧W.cell? ⟨tb,off + i * 12 + 4,none⟩ = some (.int .i64 x.rt.1)∧W.cell? ⟨tb,off + i * 12 + 5,none⟩ = some (.int .i64 x.rt.2.1)∧W.cell? ⟨tb,off + i * 12 + 6,none⟩ = some (.int .i64 x.rt.2.2.1)∧W.cell? ⟨tb,off + i * 12 + 7,none⟩ = some (.bool x.rt.2.2.2)∧W.cell? ⟨tb,off + i * 12 + 8,none⟩ = some (.slice x.la x.ls.length x.lc)∧W.cell? ⟨tb,off + i * 12 + 9,none⟩ = some (.int .i64 x.mx)∧W.cell? ⟨tb,off + i * 12 + 10,none⟩ = some (.slice x.ca x.co.length x.cc)∧W.cell? ⟨tb,off + i * 12 + 11,none⟩ = some (.slice x.ka x.cl.length x.kc)∧W.cell? ⟨tb,off + j * 12,none⟩ = some (.string y.nm)∧W.cell? ⟨tb,off + j * 12 + 1,none⟩ = some (.int .i64 y.ow)∧W.cell? ⟨tb,off + j * 12 + 2,none⟩ = some (.int .i64 y.fl)∧W.cell? ⟨tb,off + j * 12 + 3,none⟩ = some (.slice y.pa y.ps.length y.pc)∧W.cell? ⟨tb,off + j * 12 + 4,none⟩ = some (.int .i64 y.rt.1)∧W.cell? ⟨tb,off + j * 12 + 5,none⟩ = some (.int .i64 y.rt.2.1)∧W.cell? ⟨tb,off + j * 12 + 6,none⟩ = some (.int .i64 y.rt.2.2.1)∧W.cell? ⟨tb,off + j * 12 + 7,none⟩ = some (.bool y.rt.2.2.2)∧W.cell? ⟨tb,off + j * 12 + 8,none⟩ = some (.slice y.la y.ls.length y.lc)∧W.cell? ⟨tb,off + j * 12 + 9,none⟩ = some (.int .i64 y.mx)∧W.cell? ⟨tb,off + j * 12 + 10,none⟩ = some (.slice y.ca y.co.length y.cc)∧W.cell? ⟨tb,off + j * 12 + 11,none⟩ = some (.slice y.ka y.cl.length y.kc))
  (first | (exact HQ.out _ hB1) | (exact HQ.out _ (bdrew _)))
  (first | (go_at_call 166; refine (HSm.out _ (bdrew _)).mono ?_; rintro e w1 ⟨rfl,hz1⟩; have hB1 : Below w.heap.size w w1:=bstep (bdrew _) hz1))
 rename_i hheld
 clear hheld
 have HB1 : Hid (Below w.heap.size w w1):=hB1
 clear hz1 hB1 h0 a0 a1 a2 a3 a4 a5 a6 a7 a8 a9 a10 a11 b0 b1 b2 b3 b4 b5 b6 b7 b8 b9 b10 b11
 go_wp2_with fail
 go_ret
 exact ⟨rfl,HB1.out⟩
set_option maxHeartbeats 8000000 in
theorem named11_any {g : Img} {q : Nat} {w : World} (hg : Im w g) (hi : imB g = true) (hq : q < g.ts.length) :
  Calls Tryz.prog 111 #[imV g,.int .i64 q] w fun e w' => e = .returned (.bool (nmdB g (q : Int)))∧Below w.heap.size w w':=by
 obtain ⟨w0,hw0⟩ : ∃ W,W = w.alloc (.cells (imC g) 26):=⟨_,rfl⟩
 have HW0 : Hid (w0 = _):=hw0
 obtain ⟨hb0,hgb⟩:=GB.made hg hw0
 have HB0 : Hid (Below w.heap.size w w0):=hb0
 have HG : Hid (GB w0 w.heap.size g):=hgb
 obtain ⟨tb,off,hta,h8,h9,hty⟩:=hgb.ty (by intro e; rw [e] at hq; simp at hq)
 have HTY : Hid (∀ W,Below w0.heap.size w0 W → ∀ k (hk : k < g.ts.length),W.cell? ⟨tb,off + k * 4,none⟩ = some (.string g.ts[k].nm)∧W.cell? ⟨tb,off + k * 4 + 1,none⟩ = some (.int .i64 g.ts[k].fl)∧W.cell? ⟨tb,off + k * 4 + 2,none⟩ = some (.int .i64 g.ts[k].ex)∧W.cell? ⟨tb,off + k * 4 + 3,none⟩ = some (.slice g.ts[k].fa g.ts[k].fs.length g.ts[k].fc)):=fun W hW k hk => (hty W hW).2 k hk
 have HC4 : Hid (∀ W,Below w0.heap.size w0 W → W.cell? ⟨w.heap.size,0,none⟩ = some (.slice (some ⟨tb,off,none⟩) g.ts.length g.tc)∧W.cell? ⟨w.heap.size,1,none⟩ = some (.slice g.fa g.fs.length g.fc)∧W.cell? ⟨w.heap.size,2,none⟩ = some (.slice g.ma g.ms.length g.mc)∧W.cell? ⟨w.heap.size,3,none⟩ = some (.int .i64 g.en)):=fun W hW => by
  have:=(HG.out.later hW).cells
  rw [hta] at this
  exact this
 have HFl : Hid (∀ W,Below w0.heap.size w0 W → Calls Tryz.prog 163 #[.agg (imC g),.int .i64 q] W fun e w' => ∃ v,e = .returned v∧OwnI w' W.heap.size v (fldN g (q : Int))∧Below W.heap.size W w'):=fun W hW => fields_any (HG.out.im.later hW) hi
 have HMt : Hid (∀ W,Below w0.heap.size w0 W → Calls Tryz.prog 47 #[.agg (imC g),.int .i64 q] W fun e w' => ∃ v,e = .returned v∧OwnI w' W.heap.size v (mtdN g (q : Int))∧Below W.heap.size W w'):=fun W hW => methods_any (HG.out.im.later hW) hi
 have HDF : Hid (∀ W v,Below w0.heap.size w0 W → Is W v (fldN g (q : Int)) → Calls Tryz.prog 160 #[v,.func (.func 164) #[] #[.pointer (some ⟨w.heap.size,0,none⟩)]] W fun e w' => e = .returned (.bool (difB (fun a b => decide (fnI g a ≠ fnI g b)) (fldN g (q : Int))))∧Below W.heap.size W w'):=fun W v hW hv =>
  differ_any hv ⟨run_enter9 Tryz.func164 (by kernel_rfl) rfl,fun W2 hW2 x hx y hy => by
   obtain ⟨i,rfl,hil⟩:=fldN_num hx
   obtain ⟨j,rfl,hjl⟩:=fldN_num hy
   rw [fnI_at hil,fnI_at hjl]
   simpa using named1_any (HG.out.later (bstep hW hW2)) hil hjl⟩
 have HDM : Hid (∀ W v,Below w0.heap.size w0 W → Is W v (mtdN g (q : Int)) → Calls Tryz.prog 160 #[v,.func (.func 165) #[] #[.pointer (some ⟨w.heap.size,0,none⟩)]] W fun e w' => e = .returned (.bool (difB (fun a b => !smI g a b) (mtdN g (q : Int))))∧Below W.heap.size W w'):=fun W v hW hv =>
  differ_any hv ⟨run_enter9 Tryz.func165 (by kernel_rfl) rfl,fun W2 hW2 x hx y hy => by
   obtain ⟨i,rfl,hil⟩:=mtdN_num hx
   obtain ⟨j,rfl,hjl⟩:=mtdN_num hy
   rw [smI_at hil hjl]
   simpa using named2_any (HG.out.later (bstep hW hW2)) hil hjl⟩
 obtain ⟨c0,c1,c2,c3⟩:=HC4.out w0 (Below.refl _ _)
 obtain ⟨k0,_,_,_⟩:=HTY.out w0 (Below.refl _ _) q hq
 have hqi : (q : Int) < (g.ts.length : Int):=by omega
 have HR : Hid (nmdB g (q : Int) = (tnmB g (q : Int) && difB (fun a b => decide (fnI g a ≠ fnI g b)) (fldN g (q : Int)) && difB (fun a b => !smI g a b) (mtdN g (q : Int)))):=rfl
 unfold maxLen at h9
 unfold imC at HW0 HFl HMt
 rw [hta] at HW0 HFl HMt
 clear hw0 hb0 hgb hg hi hty
 unfold imV
 rw [hta]
 clear hta
 generalize nmdB g (q : Int) = F at *
 generalize difB (fun a b => decide (fnI g a ≠ fnI g b)) (fldN g (q : Int)) = r1 at *
 generalize difB (fun a b => !smI g a b) (mtdN g (q : Int)) = r2 at *
 go_enter Tryz.func111,Tryz.ntmps111
 go_wp2_with (rw [← HW0.out])
 clear c0 c1 c2 c3 k0
 go_loopw [6,7,17] (fun _ _ z wr => ∃ k : Nat,k ≤ g.ts.length∧z = .int .i64 k∧Hid (TnOk g q k g.ts[q].nm)∧Hid (Below w0.heap.size w0 wr)) (fun _ _ z _ => g.ts.length - (intOf z).toNat)
 case atStart => exact ⟨0,Nat.zero_le _,rfl,fun k h hk => absurd hk (by omega),Below.refl _ _⟩
 case round =>
  obtain ⟨k,hk,rfl,HT,HB⟩:=hrel
  by_cases hkl : k < g.ts.length
  ·have hki : (k : Int) < (g.ts.length : Int):=by omega
   obtain ⟨c0,c1,c2,c3⟩:=HC4.out wr HB.out
   obtain ⟨k0,k1,k2,k3⟩:=HTY.out wr HB.out k hkl
   by_cases hkq : k = q
   ·have hne : ((k : Int) != (q : Int)) = false:=by simp; omega
    have HT2 : Hid (TnOk g q (k + 1) g.ts[q].nm):=fun i h hlt => by
     by_cases e : i = k
     ·exact Or.inl (by omega)
     ·exact HT.out i h (by omega)
    clear hkq
    generalize g.ts[k] = x at *
    go_wp2_with fail
    go_roundw
    case rel => exact ⟨k + 1,by omega,by go_num,HT2.out,bbox HB.out _⟩
    case measure => simp [intOf]; omega
   ·have hne : ((k : Int) != (q : Int)) = true:=by simp; omega
    have HNo : Hid (g.ts[k].nm = g.ts[q].nm → tnmB g (q : Int) = false):=fun h => tnm_no hq hkl hkq h
    have HYs : Hid (g.ts[k].nm ≠ g.ts[q].nm → TnOk g q (k + 1) g.ts[q].nm):=fun h i hi hlt => by
     by_cases e : i = k
     ·subst e; exact Or.inr h
     ·exact HT.out i hi (by omega)
    have hstr:=str_dec g.ts[k].nm g.ts[q].nm
    by_cases hnm : g.ts[k].nm = g.ts[q].nm
    ·have HBad : Hid (F = false):=by show _ = _; rw [HR.out,HNo.out hnm]; rfl
     rw [decide_eq_true hnm] at hstr
     clear hnm HNo HYs hkq HT
     generalize g.ts[q].nm = n2 at *
     generalize g.ts[k] = x at *
     go_wp2_with fail
     go_ret
     exact ⟨ret_bool HBad.out.symm,bstep HB0.out (bbox HB.out _)⟩
    ·have HT2 : Hid _:=HYs.out hnm
     rw [decide_eq_false hnm] at hstr
     clear hnm HNo HYs hkq HT
     generalize g.ts[q].nm = n2 at *
     generalize g.ts[k] = x at *
     go_wp2_with fail
     go_roundw
     case rel => exact ⟨k + 1,by omega,by go_num,HT2.out,bbox HB.out _⟩
     case measure => simp [intOf]; omega
  ·have hki : ¬ (k : Int) < (g.ts.length : Int):=by omega
   have HTn : Hid (tnmB g (q : Int) = true):=(tnm_iff hq).2 (fun i hi _ => HT.out i hi (by omega))
   have HR1 : Hid (F = (r1 && r2)):=by show _ = _; rw [HR.out,HTn.out]; rfl
   obtain ⟨c0,c1,c2,c3⟩:=HC4.out wr HB.out
   clear HT HR HTn
   go_wp2_with fail
   refine Calls.mono (HFl.out wr HB.out) ?_
   rintro e w2 ⟨fv,rfl,hf,hb2⟩
   have HB2 : Hid (Below w0.heap.size w0 w2):=bstep HB.out hb2
   have HC2 : Hid (Calls Tryz.prog 160 #[fv,.func (.func 164) #[] #[.pointer (some ⟨w.heap.size,0,none⟩)]] w2 fun e w' => e = .returned (.bool r1)∧Below w2.heap.size w2 w'):=HDF.out w2 fv HB2.out hf.is
   clear hb2 c0 c1 c2 c3 hf
   go_wp2_with fail
   refine Calls.mono HC2.out ?_
   rintro e w3 ⟨rfl,hb3⟩
   have HB3 : Hid (Below w0.heap.size w0 w3):=bstep HB2.out hb3
   clear hb3 HC2
   cases r1 with
   | false =>
    have HR2 : Hid (F = false):=by show _ = _; rw [HR1.out]; rfl
    go_wp2_with fail
    go_ret
    exact ⟨ret_bool HR2.out.symm,bstep HB0.out HB3.out⟩
   | true =>
    have HR2 : Hid (F = r2):=by show _ = _; rw [HR1.out]; rfl
    obtain ⟨c0,c1,c2,c3⟩:=HC4.out w3 HB3.out
    go_wp2_with fail
    refine Calls.mono (HMt.out w3 HB3.out) ?_
    rintro e w4 ⟨mv,rfl,hm,hb4⟩
    have HB4 : Hid (Below w0.heap.size w0 w4):=bstep HB3.out hb4
    have HC2 : Hid (Calls Tryz.prog 160 #[mv,.func (.func 165) #[] #[.pointer (some ⟨w.heap.size,0,none⟩)]] w4 fun e w' => e = .returned (.bool r2)∧Below w4.heap.size w4 w'):=HDM.out w4 mv HB4.out hm.is
    clear hb4 c0 c1 c2 c3 hm
    go_wp2_with fail
    refine Calls.mono HC2.out ?_
    rintro e w5 ⟨rfl,hb5⟩
    have HB5 : Hid (Below w0.heap.size w0 w5):=bstep HB4.out hb5
    clear hb5 HC2
    go_wp2_with fail
    go_ret
    exact ⟨ret_bool HR2.out.symm,bstep HB0.out HB5.out⟩
end Go.Proofs.YthpmpdpfnlecmaaGreat

namespace Go.Proofs.YthpmpdpfnlecmaaGreat
set_option linter.unusedVariables false
set_option linter.unusedSimpArgs false
open Go.RowKit
def namesL : List UInt8 := [
 110,111,112,32,108,100,97,114,103,32,115,116,97,114,103,32,108,100,97,114,103,97,32,108,100,108,111,99,32,115,116,108,
 111,99,32,108,100,108,111,99,97,32,108,100,99,52,32,108,100,99,56,32,108,100,110,117,108,108,32,100,117,112,32,112,
 111,112,32,97,100,100,32,115,117,98,32,109,117,108,32,100,105,118,32,114,101,109,32,97,110,100,32,111,114,32,120,111,
 114,32,115,104,108,32,115,104,114,32,110,101,103,32,110,111,116,32,97,100,100,111,118,102,32,115,117,98,111,118,102,32,
 109,117,108,111,118,102,32,99,111,110,118,52,32,99,111,110,118,56,32,99,111,110,118,111,118,102,52,32,99,101,113,32,
 99,103,116,32,99,108,116,32,98,114,32,98,114,116,114,117,101,32,98,114,102,97,108,115,101,32,98,101,113,32,98,103,101,
 32,98,103,116,32,98,108,101,32,98,108,116,32,98,110,101,32,99,97,108,108,32,99,97,108,108,118,105,114,116,32,110,101,
 119,111,98,106,32,114,101,116,32,116,97,105,108,32,108,100,102,108,100,32,115,116,102,108,100,32,108,100,102,108,100,
 97,32,108,100,115,102,108,100,32,115,116,115,102,108,100,32,108,100,115,102,108,100,97,32,108,100,111,98,106,32,115,
 116,111,98,106,32,105,110,105,116,111,98,106,32,110,101,119,97,114,114,32,108,100,108,101,110,32,108,100,101,108,101,
 109,32,115,116,101,108,101,109,32,108,100,101,108,101,109,97,32,98,111,120,32,117,110,98,111,120,32,117,110,98,111,120,
 97,110,121,32,99,97,115,116,99,108,97,115,115,32,105,115,105,110,115,116,32,108,100,102,116,110,32,110,101,119,100,101,
 108,32,116,104,114,111,119,32,114,101,116,104,114,111,119,32,108,101,97,118,101,32,101,110,100,102,105,110,97,108,108,
 121,32,101,110,100,102,105,108,116,101,114,32,105,110,32,111,117,116,32]
def namesB : ByteArray:=⟨namesL.toArray⟩
def chk : List UInt8 → Nat → List UInt8 → Bool
 | [],m,cur => m == 76
 | c :: l,m,cur => if c = 32 then (opI (m : Int)).1 == cur && decide (1 ≤ m∧m ≤ 75) && chk l (m + 1) [] else chk l m (cur ++ [c])
theorem names_chk : chk namesL 1 [] = true:=by decide +kernel
theorem names_len : namesL.length = 433:=by decide +kernel
theorem namesB_get (k : Nat) (h : k < 433) (g : k < namesB.size) : namesB[k] = namesL[k]'(by rw [names_len]; exact h):=rfl
def nseg (f k : Nat) : List UInt8:=(namesL.drop f).take (k - f)
theorem nseg_next {f k : Nat} (hf : f ≤ k) (hk : k < 433) : nseg f (k + 1) = nseg f k ++ [namesL[k]'(by rw [names_len]; exact hk)]:=by
 unfold nseg
 have hl:=names_len
 rw [show k + 1 - f = (k - f) + 1 by omega,List.take_succ_eq_append_getElem (by simp; omega)]
 congr 2
 simp [show f + (k - f) = k by omega]
theorem nseg_nil (k : Nat) : nseg k k = []:=by simp [nseg]
theorem drop_next {k : Nat} (hk : k < 433) : namesL.drop k = (namesL[k]'(by rw [names_len]; exact hk)) :: namesL.drop (k + 1):=by
 rw [List.drop_eq_getElem_cons (by rw [names_len]; exact hk)]
theorem chk_space {k m : Nat} {cur : List UInt8} (hk : k < 433) (h : chk (namesL.drop k) m cur = true) (hc : (namesL[k]'(by rw [names_len]; exact hk)) = 32) : (opI (m : Int)).1 = cur∧1 ≤ m∧m ≤ 75∧chk (namesL.drop (k + 1)) (m + 1) [] = true:=by
 rw [drop_next hk] at h
 unfold chk at h
 rw [if_pos hc] at h
 simp only [Bool.and_eq_true,beq_iff_eq,decide_eq_true_eq] at h
 exact ⟨h.1.1,h.1.2.1,h.1.2.2,h.2⟩
theorem chk_sign {k m : Nat} {cur : List UInt8} (hk : k < 433) (h : chk (namesL.drop k) m cur = true) (hc : ¬ (namesL[k]'(by rw [names_len]; exact hk)) = 32) : chk (namesL.drop (k + 1)) m (cur ++ [namesL[k]'(by rw [names_len]; exact hk)]) = true:=by
 rw [drop_next hk] at h
 unfold chk at h
 rw [if_neg hc] at h
 exact h
theorem chk_end {m : Nat} {cur : List UInt8} (h : chk (namesL.drop 433) m cur = true) : m = 76:=by
 rw [List.drop_of_length_le (by rw [names_len]; exact Nat.le_refl _)] at h
 simpa [chk] using h

theorem names6_yes {k : Nat} (hlt : k < 433) (g : k < namesB.size) (h : (((namesB[k]'g).toNat : Int) == 32) = true) : (namesL[k]'(by rw [names_len]; exact hlt)) = 32:=by
 rw [namesB_get k hlt g] at h
 exact UInt8.toNat_inj.1 (by simp at h ⊢; omega)
theorem names6_no {k : Nat} (hlt : k < 433) (g : k < namesB.size) (h : (((namesB[k]'g).toNat : Int) == 32) = false) : ¬ (namesL[k]'(by rw [names_len]; exact hlt)) = 32:=by
 rw [namesB_get k hlt g] at h
 intro e
 rw [e] at h
 simp at h
theorem names_cut {f k m : Nat} (hf : f ≤ k) (h : (opI (m : Int)).1 = nseg f k) : namesB.extract f k = opS (m : Int):=by
 unfold opS
 rw [h]
 apply ByteArray.ext
 rw [ByteArray.data_extract]
 apply Array.ext'
 simp [namesB,nseg]
theorem ret_txt {a b : ByteArray} (h : a = b) : Ending.returned (.string a) = .returned (.string b):=by rw [h]

set_option maxHeartbeats 1000000 in
set_option maxRecDepth 1000000 in
theorem refOpName_any (n : Int) (w : World) :
  Calls Tryz.prog 136 #[.int .i64 n] w fun e w' => e = .returned (.string (opS n))∧w' = w:=by
 go_enter Tryz.func136,Tryz.ntmps136
 go_wp2_with fail
 go_loop [3,4,5] (fun m f i => ∃ k m' f' : Nat,k ≤ 433∧i = .int .i64 (k : Int)∧m = .int .i64 (m' : Int)∧f = .int .i64 (f' : Int)∧f' ≤ k∧m' ≤ k + 1∧Hid (chk (namesL.drop k) m' (nseg f' k) = true∧¬ (1 ≤ n∧n < (m' : Int)))) (fun _ _ i => 433 - (intOf i).toNat)
 case atStart => exact ⟨0,1,0,by omega,by go_num,by go_num,by go_num,by omega,by omega,⟨names_chk,by omega⟩⟩
 case round =>
  obtain ⟨k,m',f',hk,rfl,rfl,rfl,hf,hm,HC⟩:=hrel
  by_cases hlt : k < 433
  ·have hkB : k < namesB.size:=hlt
   by_cases hmn : (m' : Int) = n
   ·subst hmn
    go_wp2_with fail
    ·rename_i hs0 _ _ _
     have hsp:=names6_yes hlt hkB hs0
     clear hs0
     obtain ⟨c1,c2,c3,c4⟩:=chk_space hlt HC.out.1 hsp
     go_ret
     exact ⟨ret_txt (names_cut hf c1),rfl⟩
    ·rename_i hs0
     have hsp:=names6_no hlt hkB hs0
     clear hs0
     go_round
     case rel => exact ⟨k + 1,m',f',by omega,by go_num,rfl,rfl,by omega,by omega,⟨by rw [nseg_next hf hlt]; exact chk_sign hlt HC.out.1 hsp,HC.out.2⟩⟩
     case measure => simp [intOf]; omega
   ·have hmn2 : ((m' : Int) == n) = false:=by simpa using hmn
    have HN : Hid (¬ (1 ≤ n∧n < ((m' + 1 : Nat) : Int))):=by have:=HC.out.2; show ¬ _; omega
    clear hmn
    go_wp2_with fail
    ·rename_i hs0
     have hsp:=names6_yes hlt hkB hs0
     clear hs0
     obtain ⟨c1,c2,c3,c4⟩:=chk_space hlt HC.out.1 hsp
     go_round
     case rel => exact ⟨k + 1,m' + 1,k + 1,by omega,by go_num,by go_num,by go_num,by omega,by omega,⟨by rw [nseg_nil]; exact c4,HN.out⟩⟩
     case measure => simp [intOf]; omega
    ·rename_i hs0
     have hsp:=names6_no hlt hkB hs0
     clear hs0
     go_round
     case rel => exact ⟨k + 1,m',f',by omega,by go_num,rfl,rfl,by omega,by omega,⟨by rw [nseg_next hf hlt]; exact chk_sign hlt HC.out.1 hsp,HC.out.2⟩⟩
     case measure => simp [intOf]; omega
  ·have e : k = 433:=by omega
   subst e
   go_wp2_with fail
   go_ret
   have h76:=chk_end HC.out.1
   have:=HC.out.2
   exact ⟨ret_txt (opS_out (by omega)).symm,rfl⟩
def digP : ByteArray:=⟨List.toArray (48 :: 52 :: 52 :: 52 :: 51 :: 51 :: 51 :: 49 :: 50 :: 48 :: 48 :: 48 :: 48 :: 48 :: 48 :: 48 :: 48 :: 48 :: 48 :: 48 :: 48 :: 48 :: 48 :: 48 :: 48 :: 48 :: 48 :: 48 :: 48 :: 48 :: 48 :: 48 :: 48 :: 53 :: 53 :: 53 :: 53 :: 53 :: 53 :: 53 :: 53 :: 53 :: 54 :: 54 :: 54 :: 48 :: 48 :: 55 :: 55 :: 55 :: 55 :: 55 :: 55 :: 56 :: 56 :: 56 :: 56 :: 48 :: 56 :: 56 :: 56 :: 56 :: 56 :: 56 :: 56 :: 56 :: 54 :: 56 :: 48 :: 48 :: 53 :: 48 :: 48 :: 48 :: 48 :: [])⟩
def digW : ByteArray:=⟨List.toArray (48 :: 48 :: 48 :: 48 :: 48 :: 48 :: 48 :: 48 :: 48 :: 48 :: 48 :: 48 :: 48 :: 48 :: 48 :: 48 :: 48 :: 48 :: 48 :: 48 :: 48 :: 48 :: 48 :: 48 :: 48 :: 48 :: 48 :: 48 :: 48 :: 48 :: 48 :: 48 :: 48 :: 49 :: 50 :: 50 :: 50 :: 50 :: 50 :: 50 :: 50 :: 50 :: 48 :: 48 :: 48 :: 51 :: 48 :: 48 :: 48 :: 48 :: 48 :: 48 :: 48 :: 48 :: 48 :: 48 :: 48 :: 48 :: 48 :: 48 :: 48 :: 48 :: 48 :: 48 :: 48 :: 48 :: 48 :: 48 :: 51 :: 51 :: 52 :: 53 :: 53 :: 48 :: 48 :: [])⟩
theorem digP_all : ∀ k : Nat,k < 75 → ((digP.get! k).toNat : Int) = opP ((k : Int) + 1) + 48∧0 ≤ opP ((k : Int) + 1)∧opP ((k : Int) + 1) ≤ 8:=by decide +kernel
theorem digW_all : ∀ k : Nat,k < 75 → ((digW.get! k).toNat : Int) = opW ((k : Int) + 1) + 48∧0 ≤ opW ((k : Int) + 1)∧opW ((k : Int) + 1) ≤ 5:=by decide +kernel

theorem wrap_small {x : Int} (h0 : 0 ≤ x) (h1 : x < 256) : IntKind.u8.wrap x = x:=by
 unfold IntKind.wrap
 simp [IntKind.bits,IntKind.signed]
 omega
theorem get_bang (d : ByteArray) (k : Nat) (h : k < d.size) : d.get! k = d[k]'h:=by
 show d.data[k]! = d.data[k]'h
 exact getElem!_pos d.data k h
theorem digP_at (k : Nat) (hk : k < 75) (h : k < digP.size) : ((digP[k]'h).toNat : Int) = opP ((k : Int) + 1) + 48:=by rw [← get_bang]; exact (digP_all k hk).1
theorem digW_at (k : Nat) (hk : k < 75) (h : k < digW.size) : ((digW[k]'h).toNat : Int) = opW ((k : Int) + 1) + 48:=by rw [← get_bang]; exact (digW_all k hk).1

set_option maxHeartbeats 1000000 in
set_option maxRecDepth 100000 in
theorem refOf_in (k : Nat) (hk : k < 75) (w : World) :
  Calls Tryz.prog 88 #[.int .i64 ((k : Int) + 1)] w fun e w' => e = .returned (.tuple #[.agg #[.string (opS ((k : Int) + 1)),.int .i64 (opP ((k : Int) + 1)),.int .i64 (opW ((k : Int) + 1))],.int .i64 0])∧Below w.heap.size w w':=by
 have hA0:=At.made w #[.string ⟨#[]⟩,.int .i64 0,.int .i64 0] 97
 have hb0 : Below w.heap.size w (w.alloc (.cells #[.string ⟨#[]⟩,.int .i64 0,.int .i64 0] 97)):=(Below.refl _ _).alloc (Nat.le_refl _) _
 have h1 : (0 : Int) ≤ (k : Int):=by omega
 have h2 : (k : Int) < 75:=by omega
 have hkw : IntKind.i64.wrap (k : Int) = (k : Int):=by rw [IntKind.wrap_i64]; omega
 have hp:=digP_at k hk hk
 have hq:=digW_at k hk hk
 unfold digP at hp
 unfold digW at hq
 obtain ⟨-,hp0,hp8⟩:=digP_all k hk
 obtain ⟨-,hw0,hw5⟩:=digW_all k hk
 generalize opP ((k : Int) + 1) = p at *
 generalize opW ((k : Int) + 1) = q at *
 have hpw : IntKind.u8.wrap p = p:=wrap_small (by omega) (by omega)
 have hqw : IntKind.u8.wrap q = q:=wrap_small (by omega) (by omega)
 have hpi : IntKind.i64.wrap p = p:=by rw [IntKind.wrap_i64]; omega
 have hqi : IntKind.i64.wrap q = q:=by rw [IntKind.wrap_i64]; omega
 go_enter Tryz.func88,Tryz.ntmps88
 go_wp2_with fail
 go_region_held3 (fun w' => True) (exact trivial)
  (first | (go_at_call 136; refine (refOpName_any _ _).mono ?_; rintro e wz ⟨rfl,hz⟩; subst wz))
 all_goals
  clear hp hq
  go_wp2
  refine bodyPost_ret (v:=_) (by simp [results,Tryz.results88,go_sem]) rfl ⟨rfl, ?_⟩
  exact Below.drewN ((Below.refl _ _).alloc (Nat.le_refl _) _) 1

theorem refOf_out (n : Int) (h : ¬ (1 ≤ n∧n ≤ 75)) (w : World) :
  Calls Tryz.prog 88 #[.int .i64 n] w fun e w' => e = .returned (.tuple #[.agg #[.string ⟨#[]⟩,.int .i64 0,.int .i64 0],.int .i64 3])∧Below w.heap.size w w':=by
 have hor : (decide (n < 1) || decide (75 < n)) = true:=by simp; omega
 by_cases h1 : n < 1
 ·clear h hor
  go_enter Tryz.func88,Tryz.ntmps88
  go_wp2
  refine bodyPost_ret (v:=_) (by simp [results,Tryz.results88,go_sem]) rfl ⟨rfl, ?_⟩
  exact (Below.refl _ _).alloc (Nat.le_refl _) _
 ·have h2 : 75 < n:=by omega
  clear h hor
  go_enter Tryz.func88,Tryz.ntmps88
  go_wp2
  refine bodyPost_ret (v:=_) (by simp [results,Tryz.results88,go_sem]) rfl ⟨rfl, ?_⟩
  exact (Below.refl _ _).alloc (Nat.le_refl _) _
theorem refOf_at (n : Int) (h1 : 1 ≤ n) (h2 : n ≤ 75) (w : World) :
  Calls Tryz.prog 88 #[.int .i64 n] w fun e w' => e = .returned (.tuple #[.agg #[.string (opS n),.int .i64 (opP n),.int .i64 (opW n)],.int .i64 0])∧Below w.heap.size w w':=by
 have:=refOf_in (n - 1).toNat (by omega) w
 rw [show ((n - 1).toNat : Int) + 1 = n by omega] at this
 exact this

set_option maxHeartbeats 2000000 in
theorem refFits6_any (op n k i d : Int) (r : Bool) (w : World) :
  Calls Tryz.prog 205 #[.agg #[.int .i64 op,.int .i64 n,.int .i64 k,.int .i64 i,.int .i64 d,.bool r]] w fun e w' => e = .returned (.int .i64 (fitE op n k i d r))∧Below w.heap.size w w':=by
 have hb0 : Below w.heap.size w (w.alloc (.cells #[.int .i64 op,.int .i64 n,.int .i64 k,.int .i64 i,.int .i64 d,.bool r] 89)):=(Below.refl _ _).alloc (Nat.le_refl _) _
 have hA0:=At.made w #[.int .i64 op,.int .i64 n,.int .i64 k,.int .i64 i,.int .i64 d,.bool r] 89
 have hz : ∀ W : World,(binOp .eql 51 (.agg #[.int .i64 k,.int .i64 i,.int .i64 d,.bool r]) (.agg #[.int .i64 0,.int .i64 0,.int .i64 0,.bool false])).run Tryz.prog W = .ok (.bool (zeroB k i d r)) W:=fun W => by
  rw [eq_ty]; cases r <;> rfl
 by_cases hin : 1 ≤ op∧op ≤ 75
 ·obtain ⟨h1,h2⟩:=hin
  have HE : Hid (fitE op n k i d r = if fitB (opP op) n k i d r = true then 0 else 17):=by show _ = _; unfold fitE; rw [if_pos ⟨h1,h2⟩]
  go_enter Tryz.func205,Tryz.ntmps205
  go_wp2_with fail
  refine (refOf_at op h1 h2 _).mono ?_
  rintro e w1 ⟨rfl,hb⟩
  have hA:=hA0.later hb
  have hB:=hb0.trans (hb.mono hb0.size)
  have hbx : Below w1.heap.size w1 (w1.alloc (.cells #[.string (opS op),.int .i64 (opP op),.int .i64 (opW op)] 97)):=(Below.refl _ _).alloc (Nat.le_refl _) _
  have hA2:=hA.later hbx
  have hB2:=hB.trans (hbx.mono hB.size)
  have hX:=At.made w1 #[.string (opS op),.int .i64 (opP op),.int .i64 (opW op)] 97
  have tc:=hA2.cell
  have xc:=hX.cell
  clear hb hb0 hA hA0 hB hbx h1 h2
  generalize opP op = p at *
  generalize opW op = q at *
  generalize opS op = s at *
  go_wp2_with fail
  refine (most_any p _).mono ?_
  rintro e wz ⟨rfl,hw⟩
  subst wz
  by_cases hlo : n < bLo p
  ·have HN : Hid (fitE op n k i d r = 17):=by
    show _ = _; rw [HE.out,if_neg]; unfold fitB; simp; intro a; omega
   clear HE
   by_cases hhi : bHi p < n
   ·go_wp2_with fail
    go_ret
    exact ⟨ret_int HN.out.symm,hB2⟩
   ·go_wp2_with fail
    go_ret
    exact ⟨ret_int HN.out.symm,hB2⟩
  ·by_cases hhi : bHi p < n
   ·have HN : Hid (fitE op n k i d r = 17):=by
     show _ = _; rw [HE.out,if_neg]; unfold fitB; simp; intro a b; omega
    clear HE
    go_wp2_with fail
    go_ret
    exact ⟨ret_int HN.out.symm,hB2⟩
   ·have HF : Hid (fitB p n k i d r = if p = 8 then mayB 1 k i d r else zeroB k i d r):=by
     show _ = _; unfold fitB; rw [decide_eq_true (by omega),decide_eq_true (by omega)]; rfl
    by_cases h8 : p = 8
    ·subst h8
     have HF8 : Hid (fitB 8 n k i d r = mayB 1 k i d r):=by show _ = _; rw [HF.out,if_pos rfl]
     clear HF
     go_wp2_with fail
     refine (where1_any k i d r _).mono ?_
     rintro e w2 ⟨rfl,hb⟩
     have hB3:=hB2.trans (hb.mono hB2.size)
     clear hb hB2 tc xc
     cases hm : mayB 1 k i d r with
     | false =>
      go_wp2_with fail
      go_ret
      exact ⟨ret_int (by rw [HE.out,HF8.out,hm]; rfl),hB3⟩
     | true =>
      go_wp2_with fail
      go_ret
      exact ⟨ret_int (by rw [HE.out,HF8.out,hm]; rfl),hB3⟩
    ·have h8' : (p == 8) = false:=by simpa using h8
     have h8n : (p != 8) = true:=by simpa using h8
     have HF8 : Hid (fitB p n k i d r = zeroB k i d r):=by show _ = _; rw [HF.out,if_neg h8]
     clear HF h8
     cases hm : zeroB k i d r with
     | false =>
      go_wp2_with fail
      go_ret
      exact ⟨ret_int (by rw [HE.out,HF8.out,hm]; rfl),hB2⟩
     | true =>
      go_wp2_with fail
      go_ret
      exact ⟨ret_int (by rw [HE.out,HF8.out,hm]; rfl),hB2⟩
 ·have HE : Hid (fitE op n k i d r = 3):=by show _ = _; unfold fitE; rw [if_neg hin]
  go_enter Tryz.func205,Tryz.ntmps205
  go_wp2_with fail
  refine (refOf_out op hin _).mono ?_
  rintro e w1 ⟨rfl,hb⟩
  have hB:=hb0.trans (hb.mono hb0.size)
  have hbx : Below w1.heap.size w1 (w1.alloc (.cells #[.string ⟨#[]⟩,.int .i64 0,.int .i64 0] 97)):=(Below.refl _ _).alloc (Nat.le_refl _) _
  have hB2:=hB.trans (hbx.mono hB.size)
  clear hb hb0 hA0 hB hbx
  go_wp2_with fail
  go_ret
  exact ⟨ret_int HE.out.symm,hB2⟩
end Go.Proofs.YthpmpdpfnlecmaaGreat
