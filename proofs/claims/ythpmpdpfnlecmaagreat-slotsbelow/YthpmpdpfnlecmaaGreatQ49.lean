/- Texts joined: RefDone13, RefCells12, RefCount12, LayMath. -/
import Derived.Test.YthpmpdpfnlecmaaGreatQ47
import Derived.Test.YthpmpdpfnlecmaaGreatQ41
import Derived.Test.YthpmpdpfnlecmaaGreatQ38
import Derived.Test.YthpmpdpfnlecmaaGreatQ12
import Derived.Test.YthpmpdpfnlecmaaGreatQ19
import Derived.Test.YthpmpdpfnlecmaaGreatQ29
import Derived.Test.YthpmpdpfnlecmaaGreatQ30
import Derived.Deep.RegionHeld3
import Derived.Deep.QuietTactic
import Derived.BigQuiet
namespace Go.Proofs.YthpmpdpfnlecmaaGreat
set_option linter.unusedVariables false
set_option linter.unusedSimpArgs false
open Go.RowKit
attribute [local go_sem ↓] Go.wp_at_zero Go.wp_at_succ
def rslI (g : Img) (m : Int) : Int:=if kndI g (mowI g m) = 0 then sloI g m else -1

set_option maxHeartbeats 8000000 in
theorem refSlot_any {g : Img} {m : Int} {w : World} (hg : Im w g) (hw : welB g = true) (hm : mNum g m) : Ans 29 #[imA4 g,.int .i64 m] w (.int .i64 (rslI g m)):=by
 obtain ⟨k,hk,rfl⟩:=mNum_at hm
 obtain ⟨w0,tb,off,hma,h1,h2,HW0,HB0,HK,HI,HG⟩:=img_mth_head hg hk
 have hi:=(Wel.of hw).im
 have hln:=im_len hi
 have HBt : Hid (∀ W,Ans 53 #[mdV g.ms[k],.int .i64 2] W (.bool (virB g (k : Int)))):=fun W => by
  unfold virB
  rw [mflI_at hk]
  exact (refBits13 g.ms[k] (mfl_bound hi hk) W).2.1
 have HKn : Hid (∀ W,Below w0.heap.size w0 W → Ans 27 #[imA4 g,.int .i64 g.ms[k].ow] W (.int .i64 (kndI g g.ms[k].ow))):=fun W hW => refKind_any _ (HI.out W hW) (FlOk.of hi)
 have HTb : Hid (∀ W,Below w0.heap.size w0 W → Calls Tryz.prog 28 #[imA4 g,.int .i64 g.ms[k].ow] W fun e w' => ∃ v,e = .returned v∧OwnI w' W.heap.size v (tabL g g.ms[k].ow)∧Below W.heap.size W w'):=fun W hW => refTable_any hw (HI.out W hW)
 have HR : Hid (rslI g (k : Int) = if kndI g g.ms[k].ow = 0 then fidI (fun j => j == (k : Int)) (tabL g g.ms[k].ow) else -1):=by
  show _ = _
  unfold rslI sloI ixI
  rw [mowI_at hk]
 have HNv : Hid (virB g (k : Int) = false → rslI g (k : Int) = -1):=fun h => by
  unfold rslI
  rw [slo_not h]; simp
 have hTl:=tab_len (g:=g) g.ms[k].ow
 have hT2 : g.ts.length * g.ms.length ≤ 32 * 64:=Nat.mul_le_mul hln.1 hln.2.2
 have hki : (k : Int) < (g.ms.length : Int):=by omega
 obtain ⟨⟨c0,c1,c2,c3⟩,k0,k1,k2,k3,k4,k5,k6,k7,k8,k9,k10,k11⟩:=HK.out w0 (Below.refl _ _)
 unfold maxLen at h2
 unfold imA4 at HKn HTb ⊢
 unfold mdV at HBt
 rw [hma] at HKn HTb ⊢
 clear hg hw hi hm hma HI HG
 generalize rslI g (k : Int) = R at *
 generalize virB g (k : Int) = vb at *
 generalize tabL g g.ms[k].ow = T at *
 generalize kndI g g.ms[k].ow = kn at *
 generalize g.ms[k] = x at *
 go_enter Tryz.func29,Tryz.ntmps29
 go_wp2_with (rw [← HW0.out])
 refine Calls.mono (HBt.out _) ?_
 rintro e w1 ⟨rfl,hb1⟩
 have HB1 : Hid (Below w0.heap.size w0 w1):=hb1
 clear hb1 c0 c1 c2 c3 k0 k1 k2 k3 k4 k5 k6 k7 k8 k9 k10 k11 HBt
 cases vb with
 | false =>
  have HR2 : Hid (R = -1):=HNv.out (by trivial)
  go_wp2_with fail
  go_ret
  exact ⟨ret_int HR2.out.symm,bstep HB0.out HB1.out⟩
 | true =>
  obtain ⟨⟨c0,c1,c2,c3⟩,_⟩:=HK.out w1 HB1.out
  go_wp2_with fail
  refine Calls.mono (HKn.out w1 HB1.out) ?_
  rintro e w2 ⟨rfl,hb2⟩
  have HB2 : Hid (Below w0.heap.size w0 w2):=bstep HB1.out hb2
  clear hb2 c0 c1 c2 c3 HKn
  by_cases hkn : kn = 0
  ·subst hkn
   have HR2 : Hid (R = fidI (fun j => j == (k : Int)) T):=by show _ = _; rw [HR.out,if_pos rfl]
   obtain ⟨⟨c0,c1,c2,c3⟩,_⟩:=HK.out w2 HB2.out
   go_wp2_with fail
   refine Calls.mono (HTb.out w2 HB2.out) ?_
   rintro e w3 ⟨tv,rfl,ho3,hb3⟩
   have HB3 : Hid (Below w0.heap.size w0 w3):=bstep HB2.out hb3
   obtain ⟨ta,tc,htv,_,htc⟩:=ho3.is.shape
   have HTs : Hid (∀ W,Below w3.heap.size w3 W → Is W (.slice ta T.length tc) T):=fun W hW => by
    have:=ho3.is.later hW
    rw [htv] at this; exact this
   subst htv
   unfold maxLen at htc
   clear ho3 hb3 c0 c1 c2 c3 HTb
   go_wp2_with fail
   go_loopw [7] (fun z wr => ∃ i : Nat,i ≤ T.length∧z = .int .i64 i∧wr = w3∧Hid ((T.take i).any (fun j => j == (k : Int)) = false)) (fun z _ => T.length - (intOf z).toNat)
   case atStart => exact ⟨0,Nat.zero_le _,rfl,rfl,by show _ = _; simp⟩
   case round =>
    obtain ⟨i,hil0,rfl,hwr,HA⟩:=hrel
    subst hwr
    by_cases hil : i < T.length
    ·have hii : (i : Int) < (T.length : Int):=by omega
     obtain ⟨lb,loff,hla,hlb,_,h6',h7',hcv⟩:=(HTs.out wr (Below.refl _ _)).at hil
     have cA:=hcv i hil
     subst hla
     clear hcv
     have HY : Hid (T[i] = (k : Int) → R = (i : Int)):=fun h => by rw [HR2.out]; exact fid_yes hil HA.out (by simpa using h)
     have HN : Hid (T[i] ≠ (k : Int) → (T.take (i + 1)).any (fun j => j == (k : Int)) = false):=fun h => any_take9 hil HA.out (by simpa using h)
     generalize T[i] = y at *
     by_cases hy : y = (k : Int)
     ·subst hy
      have HR3 : Hid (R = (i : Int)):=HY.out rfl
      clear HY HN
      go_wp2_with fail
      go_ret
      exact ⟨ret_int HR3.out.symm,bstep HB0.out HB3.out⟩
     ·have hyb : (y == (k : Int)) = false:=by simpa using hy
      have HA2 : Hid _:=HN.out hy
      clear HY HN hy
      go_wp2_with fail
      go_roundw
      case rel => exact ⟨i + 1,by omega,by go_num,by simp,HA2.out⟩
      case measure => simp [intOf]; omega
    ·have hii : ¬ (i : Int) < (T.length : Int):=by omega
     have HR3 : Hid (R = -1):=by
      show _ = _
      rw [HR2.out]
      refine fid_no ?_
      have:=HA.out
      rwa [List.take_of_length_le (by omega)] at this
     go_wp2_with fail
     go_ret
     exact ⟨ret_int HR3.out.symm,bstep HB0.out HB3.out⟩
  ·have hkb : (kn != 0) = true:=by simpa using hkn
   have HR2 : Hid (R = -1):=by show _ = _; rw [HR.out,if_neg hkn]
   clear hkn
   go_wp2_with fail
   go_ret
   exact ⟨ret_int HR2.out.symm,bstep HB0.out HB2.out⟩
def ownP (g : Img) (t : Int) (i : Nat) : List Ty:=((g.fs.take i).filter (ownF t)).flatMap (fun x => celL g x.t)
theorem ownP_take {g : Img} {t : Int} {i : Nat} (hi : i < g.fs.length) : ownP g t (i + 1) = ownP g t i ++ (if ownF t g.fs[i] = true then celL g g.fs[i].t else []):=by
 unfold ownP
 rw [List.take_succ_eq_append_getElem hi,List.filter_append,List.flatMap_append]
 congr 1
 cases h : ownF t g.fs[i] <;> simp [List.filter_cons,h]
theorem ownP_all {g : Img} {t : Int} {i : Nat} (hi : g.fs.length ≤ i) : ownP g t i = ownC g t:=by
 unfold ownP ownC hldL
 rw [List.take_of_length_le hi,List.flatMap_map]
theorem ownF_hld {g : Img} {t : Int} {i : Nat} (hi : i < g.fs.length) (h : ownF t g.fs[i] = true) : g.fs[i].t ∈ hldL g t:=by
 unfold hldL
 rw [List.mem_map]
 exact ⟨_,List.mem_filter.2 ⟨List.getElem_mem hi,h⟩,rfl⟩
theorem ownF_false1 {t : Int} {x : FD} (h : (x.ow == t) = false) : ownF t x = false:=by unfold ownF; rw [beq_eq_false_iff_ne] at h; simp [h]
theorem ownF_false2 {t : Int} {x : FD} (h : x.st = true) : ownF t x = false:=by unfold ownF; simp [h]
theorem ownF_true {t : Int} {x : FD} (h : (x.ow == t) = true) (h2 : x.st = false) : ownF t x = true:=by unfold ownF; rw [beq_iff_eq] at h; simp [h,h2]
def cutN (b n : Nat) : Nat:=if n ≤ b then n else b + 1
def CnB (b n m : Nat) : Prop:=n = m ∨ (b < n∧b < m)
theorem cut_cn (b m : Nat) : CnB b (cutN b m) m:=by
 unfold CnB cutN
 split
 ·exact Or.inl rfl
 ·exact Or.inr ⟨by omega,by omega⟩
theorem CnB.add {b n m a c : Nat} (h : CnB b n m) (k : CnB b a c) : CnB b (n + a) (m + c):=by unfold CnB at *; omega
theorem CnB.more {b n m : Nat} (h : CnB b n m) (hb : b < n) {M : Nat} (hM : m ≤ M) : CnB b n M:=by unfold CnB at *; omega
theorem CnB.cut {b n m : Nat} (h : CnB b n m) : cutN b m = if b < n then b + 1 else n:=by unfold CnB at h; unfold cutN; split <;> split <;> omega
theorem CnB.lt {b n m : Nat} (h : CnB b n m) : b < n ↔ b < m:=by unfold CnB at h; omega
theorem cut_le (b m : Nat) : cutN b m ≤ b + 1:=by unfold cutN; split <;> omega
theorem ownP_mono {g : Img} {t : Int} (i : Nat) : (ownP g t i).length ≤ (ownC g t).length:=by
 rw [← ownP_all (g:=g) (t:=t) (i:=g.fs.length) (Nat.le_refl _)]
 unfold ownP
 rw [List.take_of_length_le (Nat.le_refl g.fs.length)]
 have h : g.fs = g.fs.take i ++ g.fs.drop i:=(List.take_append_drop i g.fs).symm
 have : (g.fs.filter (ownF t)).flatMap (fun x => celL g x.t) = ((g.fs.take i).filter (ownF t)).flatMap (fun x => celL g x.t) ++ ((g.fs.drop i).filter (ownF t)).flatMap (fun x => celL g x.t):=by
  rw [← List.flatMap_append,← List.filter_append,← h]
 rw [this,List.length_append]; omega

set_option maxHeartbeats 4000000 in
theorem refCount_whole {g : Img} {t : Ty} {b : Nat} {w : World} (hg : Im w g) (hw : whlB t = true) (hb : 1 ≤ b) : Ans 96 #[imA4 g,.agg #[.int .i64 t.1,.int .i64 t.2.1,.int .i64 t.2.2.1,.bool t.2.2.2],.int .i64 (b : Int)] w (.int .i64 (cutN b (oneL t).length)):=by
 obtain ⟨w0,HW0,HB0,HC,HI⟩:=img_type_head hg t
 obtain ⟨⟨c0,c1,c2,c3⟩,d0,d1,d2,d3⟩:=HC.out w0 (Below.refl _ _)
 have HWh : Hid (Ans 140 #[.agg #[.int .i64 t.1,.int .i64 t.2.1,.int .i64 t.2.2.1,.bool t.2.2.2]] w0 (.bool (whlB t))):=refWhole_any t w0
 have HR1 : Hid (t.1 = 1 → cutN b (oneL t).length = 0):=fun h => by unfold oneL cutN; rw [if_pos h]; simp
 have HR2 : Hid (t.1 ≠ 1 → cutN b (oneL t).length = 1):=fun h => by unfold oneL cutN; rw [if_neg h]; simp <;> omega
 rw [hw] at HWh
 clear HI hg hw HC
 unfold imA4
 generalize cutN b (oneL t).length = R at *
 obtain ⟨k,i,d,r⟩:=t
 simp only at *
 by_cases h1 : k = 1
 ·subst h1
  have HR : Hid (R = 0):=HR1.out rfl
  go_enter Tryz.func96,Tryz.ntmps96
  go_wp2_with (rw [← HW0.out])
  go_ret
  exact ⟨ret_int (by rw [HR.out]; rfl),HB0.out⟩
 ·have HR : Hid (R = 1):=HR2.out h1
  have e1 : (k == 1) = false:=by simpa using h1
  clear h1
  go_enter Tryz.func96,Tryz.ntmps96
  go_wp2_with (rw [← HW0.out])
  refine Calls.mono HWh.out ?_
  rintro e w1 ⟨rfl,hb1⟩
  have HB1 : Hid (Below w.heap.size w w1):=bstep HB0.out hb1
  clear c0 c1 c2 c3 d0 d1 d2 d3 hb1 HWh
  go_wp2_with fail
  go_ret
  exact ⟨ret_int (by rw [HR.out]; rfl),HB1.out⟩

set_option maxHeartbeats 8000000 in
set_option maxRecDepth 20000 in
theorem refCount_step {g : Img} {t : Int} {b : Nat} {w : World} (hg : Im w g) (hk : kndI g t = 1) (hb : 1 ≤ b) (hb2 : b ≤ 100)
  (IH : ∀ y W,Im W g → y ∈ hldL g t → Ans 96 #[imA4 g,.agg #[.int .i64 y.1,.int .i64 y.2.1,.int .i64 y.2.2.1,.bool y.2.2.2],.int .i64 (b : Int)] W (.int .i64 (cutN b (celL g y).length))) :
  Ans 96 #[imA4 g,.agg #[.int .i64 6,.int .i64 t,.int .i64 0,.bool false],.int .i64 (b : Int)] w (.int .i64 (cutN b (orI (ownC g t)).length)):=by
 obtain ⟨w0,HW0,HB0,HC,HI⟩:=img_type_head hg (6,t,0,false)
 have hfl:=hg.fs.len
 unfold maxLen at hfl
 have HWh : Hid (Ans 140 #[.agg #[.int .i64 6,.int .i64 t,.int .i64 0,.bool false]] w0 (.bool false)):=refWhole_any (6,t,0,false) w0
 have HFs : Hid (∀ W,Below w0.heap.size w0 W → Es fdE W (.slice g.fa g.fs.length g.fc) g.fs):=fun W hW => (HI.out W hW).fs
 have HC4 : Hid (∀ W,Below w0.heap.size w0 W → Im4 W w.heap.size g):=fun W hW => (HC.out W hW).1
 have HD : Hid (∀ W,Below w0.heap.size w0 W → W.cell? ⟨w.heap.size + 1,1,none⟩ = some (.int .i64 t)):=fun W hW => (HC.out W hW).2.2.1
 have HCe : Hid (∀ W (i : Nat) (h : i < g.fs.length),Below w0.heap.size w0 W → ownF t g.fs[i] = true → Ans 96 #[imA4 g,.agg #[.int .i64 g.fs[i].t.1,.int .i64 g.fs[i].t.2.1,.int .i64 g.fs[i].t.2.2.1,.bool g.fs[i].t.2.2.2],.int .i64 (b : Int)] W (.int .i64 (cutN b (celL g g.fs[i].t).length))):=fun W i h hW ho => IH _ W (HI.out W hW) (ownF_hld h ho)
 have HMo : Hid (∀ i,(ownP g t i).length ≤ (ownC g t).length):=ownP_mono
 have HR : Hid (∀ n,CnB b n (ownC g t).length → cutN b (orI (ownC g t)).length = if n = 0 then 1 else if b < n then b + 1 else n):=fun n h => by
  unfold orI
  by_cases h0 : ownC g t = []
  ·rw [if_pos h0]
   rw [h0] at h
   have hn : n = 0:=by unfold CnB at h; simp at h; omega
   rw [if_pos hn]
   unfold cutN; simp <;> omega
  ·have hp : 0 < (ownC g t).length:=List.length_pos_iff.2 h0
   have hn0 : ¬ n = 0:=by unfold CnB at h; omega
   rw [if_neg h0,h.cut]
   exact (if_neg hn0).symm
 obtain ⟨⟨c0,c1,c2,c3⟩,d0,d1,d2,d3⟩:=HC.out w0 (Below.refl _ _)
 unfold imA4 at HCe ⊢
 unfold Im4 at HC4
 simp only at *
 generalize g.fa = fa at *
 generalize cutN b (orI (ownC g t)).length = R at *
 clear hg HC HI IH
 go_enter Tryz.func96,Tryz.ntmps96
 go_wp2_with (rw [← HW0.out])
 refine Calls.mono HWh.out ?_
 rintro e w1 ⟨rfl,hb1⟩
 have HB1 : Hid (Below w0.heap.size w0 w1):=hb1
 clear hb1 HWh c0 c1 c2 c3 d0 d1 d2 d3
 go_wp2_with fail
 go_loopw [7,8] (fun nv z wr => ∃ i n : Nat,i ≤ g.fs.length∧z = .int .i64 i∧nv = .int .i64 n∧Hid (CnB b n (ownP g t i).length)∧n ≤ 2 * b + 1∧Hid (Below w1.heap.size w1 wr)) (fun _ z _ => g.fs.length - (intOf z).toNat)
 case atStart => exact ⟨0,0,Nat.zero_le _,rfl,rfl,Or.inl rfl,by omega,Below.refl _ _⟩
 case round =>
  obtain ⟨i,n,hi,rfl,rfl,HN,hn2,HB⟩:=hrel
  have HB01 : Hid (Below w0.heap.size w0 wr):=bstep HB1.out HB.out
  by_cases hgo : i < g.fs.length∧n ≤ b
  ·obtain ⟨hil,hnb⟩:=hgo
   have hii : (i : Int) < (g.fs.length : Int):=by omega
   have hni : (n : Int) ≤ (b : Int):=by omega
   obtain ⟨tb,off,hla,_,hel⟩:=(HFs.out w0 (Below.refl _ _)).elAll (by intro e; rw [e] at hil; simp at hil)
   subst hla
   have HEl : Hid (∀ W,Below w0.heap.size w0 W → El fdE W tb (off + i * 7) g.fs[i]):=fun W hW => hel W hW i hil
   have HT : Hid (ownP g t (i + 1) = ownP g t i ++ (if ownF t g.fs[i] = true then celL g g.fs[i].t else [])):=ownP_take hil
   have HCq : Hid (ownF t g.fs[i] = true → ∀ W,Below w0.heap.size w0 W → Ans 96 #[.agg #[.slice g.ta g.ts.length g.tc,.slice (some ⟨tb,off,none⟩) g.fs.length g.fc,.slice g.ma g.ms.length g.mc,.int .i64 g.en],.agg #[.int .i64 g.fs[i].t.1,.int .i64 g.fs[i].t.2.1,.int .i64 g.fs[i].t.2.2.1,.bool g.fs[i].t.2.2.2],.int .i64 (b : Int)] W (.int .i64 (cutN b (celL g g.fs[i].t).length))):=fun ho W hW => HCe.out W i hil hW ho
   clear hel
   generalize g.fs[i] = x at *
   have HK : Hid (∀ W,Below w1.heap.size w1 W → (W.cell? ⟨w.heap.size,0,none⟩ = some (.slice g.ta g.ts.length g.tc)∧W.cell? ⟨w.heap.size,1,none⟩ = some (.slice (some ⟨tb,off,none⟩) g.fs.length g.fc)∧W.cell? ⟨w.heap.size,2,none⟩ = some (.slice g.ma g.ms.length g.mc)∧W.cell? ⟨w.heap.size,3,none⟩ = some (.int .i64 g.en))∧W.cell? ⟨w.heap.size + 1,1,none⟩ = some (.int .i64 t)∧W.cell? ⟨tb,off + i * 7,none⟩ = some (.string x.nm)∧W.cell? ⟨tb,off + i * 7 + 1,none⟩ = some (.int .i64 x.ow)∧W.cell? ⟨tb,off + i * 7 + 2,none⟩ = some (.int .i64 x.t.1)∧W.cell? ⟨tb,off + i * 7 + 3,none⟩ = some (.int .i64 x.t.2.1)∧W.cell? ⟨tb,off + i * 7 + 4,none⟩ = some (.int .i64 x.t.2.2.1)∧W.cell? ⟨tb,off + i * 7 + 5,none⟩ = some (.bool x.t.2.2.2)∧W.cell? ⟨tb,off + i * 7 + 6,none⟩ = some (.bool x.st)):=fun W hW => ⟨HC4.out W (bstep HB1.out hW),HD.out W (bstep HB1.out hW),(HEl.out W (bstep HB1.out hW)).cells_F⟩
   obtain ⟨⟨c0,c1,c2,c3⟩,d1,k0,k1,k2,k3,k4,k5,k6⟩:=HK.out wr HB.out
   have HF1 : Hid ((x.ow == t) = false → ownF t x = false):=ownF_false1
   have HF2 : Hid (x.st = true → ownF t x = false):=ownF_false2
   have HF3 : Hid ((x.ow == t) = true → x.st = false → ownF t x = true):=ownF_true
   cases hob : (x.ow == t) with
   | false =>
    have HT2 : Hid (CnB b n (ownP g t (i + 1)).length):=by show CnB _ _ _; rw [HT.out,HF1.out hob]; simpa using HN.out
    clear HT HF1 HF2 HF3
    go_wp2_with fail
    go_quiet (fail)
    go_wp2_with fail
    go_roundw
    case rel => exact ⟨i + 1,n,by omega,by go_num,rfl,HT2.out,by omega,Below.drewN HB.out _⟩
    case measure => simp [intOf]; omega
   | true =>
    cases hst : x.st with
    | true =>
     have HT2 : Hid (CnB b n (ownP g t (i + 1)).length):=by show CnB _ _ _; rw [HT.out,HF2.out hst]; simpa using HN.out
     rw [hst] at k6
     clear HT HF1 HF2 HF3 hst
     go_wp2_with fail
     go_quiet (fail)
     go_wp2_with fail
     go_roundw
     case rel => exact ⟨i + 1,n,by omega,by go_num,rfl,HT2.out,by omega,Below.drewN HB.out _⟩
     case measure => simp [intOf]; omega
    | false =>
     have hown : ownF t x = true:=HF3.out hob hst
     have HT2 : Hid (CnB b (n + cutN b (celL g x.t).length) (ownP g t (i + 1)).length):=by
      show CnB _ _ _
      rw [HT.out,hown,if_pos rfl,List.length_append]
      exact HN.out.add (cut_cn _ _)
     have hcl : cutN b (celL g x.t).length ≤ b + 1:=cut_le _ _
     have HCr : Hid (∀ W,Below w0.heap.size w0 W → Ans 96 #[.agg #[.slice g.ta g.ts.length g.tc,.slice (some ⟨tb,off,none⟩) g.fs.length g.fc,.slice g.ma g.ms.length g.mc,.int .i64 g.en],.agg #[.int .i64 x.t.1,.int .i64 x.t.2.1,.int .i64 x.t.2.2.1,.bool x.t.2.2.2],.int .i64 (b : Int)] W (.int .i64 (cutN b (celL g x.t).length))):=HCq.out hown
     rw [hst] at k6 HK
     clear HT HF1 HF2 HF3 hst hown HCq
     generalize cutN b (celL g x.t).length = C at *
     go_wp2_with fail
     go_quiet (fail)
     have HB4 : Hid (Below w1.heap.size w1 (wr.drewN nq)):=Below.drewN HB.out nq
     clear c0 c1 c2 c3 d1 k0 k1 k2 k3 k4 k5 k6
     revert HB4
     generalize wr.drewN nq = w4
     intro HB4
     obtain ⟨⟨c0,c1,c2,c3⟩,d1,k0,k1,k2,k3,k4,k5,k6⟩:=HK.out w4 HB4.out
     go_wp2_with fail
     go_region_held3 (fun W : World => (W.cell? ⟨w.heap.size,0,none⟩ = some (.slice g.ta g.ts.length g.tc)∧W.cell? ⟨w.heap.size,1,none⟩ = some (.slice (some ⟨tb,off,none⟩) g.fs.length g.fc)∧W.cell? ⟨w.heap.size,2,none⟩ = some (.slice g.ma g.ms.length g.mc)∧W.cell? ⟨w.heap.size,3,none⟩ = some (.int .i64 g.en))∧W.cell? ⟨w.heap.size + 1,1,none⟩ = some (.int .i64 t)∧W.cell? ⟨tb,off + i * 7,none⟩ = some (.string x.nm)∧W.cell? ⟨tb,off + i * 7 + 1,none⟩ = some (.int .i64 x.ow)∧W.cell? ⟨tb,off + i * 7 + 2,none⟩ = some (.int .i64 x.t.1)∧W.cell? ⟨tb,off + i * 7 + 3,none⟩ = some (.int .i64 x.t.2.1)∧W.cell? ⟨tb,off + i * 7 + 4,none⟩ = some (.int .i64 x.t.2.2.1)∧W.cell? ⟨tb,off + i * 7 + 5,none⟩ = some (.bool x.t.2.2.2)∧W.cell? ⟨tb,off + i * 7 + 6,none⟩ = some (.bool false))
      (first | (exact HK.out _ (bstep HB4.out hBc)) | (exact HK.out _ (bstep HB4.out (bdrew _))))
      ((go_at_call 96; refine (HCr.out _ (bstep HB1.out (bstep HB4.out (bdrew _)))).mono ?_; rintro e w3 ⟨rfl,hb3⟩; have hBc : Below w4.heap.size w4 w3:=bstep (bdrew _) hb3))
     rename_i hheld
     clear hheld
     have HB5 : Hid (Below w1.heap.size w1 w3):=bstep HB4.out hBc
     clear hb3 hBc c0 c1 c2 c3 d1 k0 k1 k2 k3 k4 k5 k6 HK HCr
     go_wp2_with fail
     go_roundw
     case rel => exact ⟨i + 1,n + C,by omega,by go_num,by simp [IntKind.wrap,IntKind.bits,IntKind.signed]; omega,HT2.out,by omega,HB5.out⟩
     case measure => simp [intOf]; omega
  ·have HN2 : Hid (CnB b n (ownC g t).length):=by
    show CnB _ _ _
    by_cases h1 : i < g.fs.length
    ·have h2 : b < n:=by
      rcases Nat.lt_or_ge b n with h | h
      ·exact h
      ·exact absurd ⟨h1,h⟩ hgo
     exact HN.out.more h2 (HMo.out i)
    ·have:=HN.out
     rwa [ownP_all (by omega)] at this
   have HRn : Hid (R = if n = 0 then 1 else if b < n then b + 1 else n):=HR.out n HN2.out
   obtain ⟨c0,c1,c2,c3⟩:=HC4.out wr HB01.out
   have HBe : Hid (Below w.heap.size w wr):=bstep HB0.out HB01.out
   clear HN HN2 HB HB01
   by_cases hn0 : n = 0
   ·subst hn0
    have hii : ¬ (i : Int) < (g.fs.length : Int):=by omega
    have hbi : ¬ (b : Int) < 1:=by omega
    have hbj : ¬ (1 : Int) > (b : Int):=by omega
    have HR1 : Hid (R = 1):=HRn.out
    clear hgo
    go_wp2_with fail
    go_ret
    exact ⟨ret_int (by rw [HR1.out]; rfl),HBe.out⟩
   ·have hnz : ¬ (n : Int) = 0:=by omega
    by_cases hbn : b < n
    ·have hbi : (b : Int) < (n : Int):=by omega
     have hnb : ¬ (n : Int) ≤ (b : Int):=by omega
     have HR1 : Hid (R = b + 1):=by show _ = _; rw [HRn.out,if_neg hn0,if_pos hbn]
     have h16 : (b : Int) + 1 ≤ 102:=by omega
     by_cases hil : i < g.fs.length
     ·have hii : (i : Int) < (g.fs.length : Int):=by omega
      clear hgo hn0
      go_wp2_with fail
      go_ret
      exact ⟨ret_int (by rw [HR1.out]; simp [IntKind.wrap,IntKind.bits,IntKind.signed]; try omega),HBe.out⟩
     ·have hii : ¬ (i : Int) < (g.fs.length : Int):=by omega
      clear hgo hn0
      go_wp2_with fail
      go_ret
      exact ⟨ret_int (by rw [HR1.out]; simp [IntKind.wrap,IntKind.bits,IntKind.signed]; try omega),HBe.out⟩
    ·have hbi : ¬ (b : Int) < (n : Int):=by omega
     have hii : ¬ (i : Int) < (g.fs.length : Int):=by omega
     have HR1 : Hid (R = n):=by show _ = _; rw [HRn.out,if_neg hn0,if_neg hbn]
     clear hgo hn0
     go_wp2_with fail
     go_ret
     exact ⟨ret_int (by rw [HR1.out]),HBe.out⟩

theorem refCount_k {g : Img} (U : WU g) {b : Nat} (hb : 1 ≤ b) (hb2 : b ≤ 100) : ∀ (k : Nat) (t : Ty) (w : World),Im w g → usdB g t = true → dpB g k t = true → Ans 96 #[imA4 g,.agg #[.int .i64 t.1,.int .i64 t.2.1,.int .i64 t.2.2.1,.bool t.2.2.2],.int .i64 (b : Int)] w (.int .i64 (cutN b (celL g t).length))
 | k,t,w,hg,hu,hd => by
  cases hw : whlB t with
  | true => rw [cel_whole hw]; exact refCount_whole hg hw hb
  | false =>
   obtain ⟨v1,v2,v3,v4,v5⟩:=usd_val hu hw
   cases k with
   | zero => unfold dpB at hd; rw [hw] at hd; cases hd
   | succ k =>
    have h1 : (hldL g t.2.1).all (dpB g k) = true:=by
     unfold dpB at hd; rw [hw] at hd; simpa using hd
    rw [List.all_eq_true] at h1
    rw [cel_value U.used (ValA.of U.wel) hu hw]
    have e : t = (6,t.2.1,0,false):=by
     obtain ⟨a,b,c,d⟩:=t
     simp only at v1 v2 v3
     subst v1 v2 v3
     rfl
    have:=refCount_step hg v4 hb hb2 (fun y W hW hy => refCount_k U hb hb2 k y W hW (U.used.hld hy) (h1 y hy))
    rw [e]; exact this
theorem refCount_any {g : Img} (U : WU g) {b : Nat} (hb : 1 ≤ b) (hb2 : b ≤ 100) {t : Ty} {w : World} (hg : Im w g) (hu : usdB g t = true) : Ans 96 #[imA4 g,.agg #[.int .i64 t.1,.int .i64 t.2.1,.int .i64 t.2.2.1,.bool t.2.2.2],.int .i64 (b : Int)] w (.int .i64 (cutN b (celL g t).length)) :=
 refCount_k U hb hb2 g.ts.length t w hg hu (dp_all U.used (ValA.of U.wel) hu)
end Go.Proofs.YthpmpdpfnlecmaaGreat

namespace Go.Proofs.YthpmpdpfnlecmaaGreat
set_option linter.unusedVariables false
set_option linter.unusedSimpArgs false
open Go.RowKit
theorem fm_app_perm {α β : Type} (a b : α → List β) : ∀ l : List α,(l.flatMap (fun x => a x ++ b x)).Perm (l.flatMap a ++ l.flatMap b)
 | [] => by simp
 | x :: r => by
  rw [List.flatMap_cons,List.flatMap_cons,List.flatMap_cons]
  have ih:=fm_app_perm a b r
  have h1 : ((a x ++ b x) ++ r.flatMap (fun x => a x ++ b x)).Perm ((a x ++ b x) ++ (r.flatMap a ++ r.flatMap b)):=List.Perm.append_left _ ih
  refine h1.trans ?_
  rw [List.append_assoc,List.append_assoc]
  refine List.Perm.append_left _ ?_
  rw [← List.append_assoc,← List.append_assoc]
  exact List.Perm.append_right _ List.perm_append_comm
theorem fm_none {β : Type} (y : Int) (L : List β) : ∀ up : List Int,y ∉ up → up.flatMap (fun u => if y = u then L else []) = []
 | [],_ => rfl
 | a :: r,h => by
  rw [List.flatMap_cons,if_neg (fun e => h (by rw [e]; exact List.mem_cons_self)),fm_none y L r (fun h2 => h (List.mem_cons_of_mem _ h2))]; rfl
theorem fm_once {β : Type} (y : Int) (L : List β) : ∀ up : List Int,up.Nodup → y ∈ up → up.flatMap (fun u => if y = u then L else []) = L
 | [],_,h => absurd h (by simp)
 | a :: r,hd,h => by
  rw [List.flatMap_cons]
  have hd2:=List.nodup_cons.1 hd
  by_cases e : y = a
  ·rw [if_pos e,fm_none y L r (by rw [e]; exact hd2.1),List.append_nil]
  ·rw [if_neg e,fm_once y L r hd2.2 (by
    rcases List.mem_cons.1 h with h | h
    ·exact absurd h e
    ·exact h)]; rfl
theorem grp_perm {α β : Type} (own : α → Int) (f : α → List β) {up : List Int} (hd : up.Nodup) : ∀ l : List α,((l.filter (fun x => up.contains (own x))).flatMap f).Perm (up.flatMap (fun u => (l.filter (fun x => decide (own x = u))).flatMap f))
 | [] => by
  have : up.flatMap (fun u => (([] : List α).filter (fun x => decide (own x = u))).flatMap f) = []:=by
   simp
  rw [this]; simp
 | x :: r => by
  have ih:=grp_perm own f hd r
  have e : up.flatMap (fun u => ((x :: r).filter (fun x => decide (own x = u))).flatMap f) = up.flatMap (fun u => (if own x = u then f x else []) ++ (r.filter (fun x => decide (own x = u))).flatMap f):=by
   refine flatMap_eq fun u _ => ?_
   rw [List.filter_cons]
   by_cases h : own x = u
   ·simp [h]
   ·simp [h]
  rw [e]
  refine List.Perm.trans ?_ (fm_app_perm _ _ up).symm
  rw [List.filter_cons]
  by_cases h : own x ∈ up
  ·rw [if_pos (List.contains_iff_mem.2 h),List.flatMap_cons,fm_once _ _ _ hd h]
   exact List.Perm.append_left _ ih
  ·rw [if_neg (fun h2 => h (List.contains_iff_mem.1 h2)),fm_none _ _ _ h,List.nil_append]
   exact ih

def objP (g : Img) (up : List Int) (i : Nat) : List Ty:=((g.fs.take i).filter (fun x => up.contains x.ow && !x.st)).flatMap (fun x => celL g x.t)
theorem objP_take {g : Img} {up : List Int} {i : Nat} (hi : i < g.fs.length) : objP g up (i + 1) = objP g up i ++ (if (up.contains g.fs[i].ow && !g.fs[i].st) = true then celL g g.fs[i].t else []):=by
 unfold objP
 rw [List.take_succ_eq_append_getElem hi,List.filter_append,List.flatMap_append]
 congr 1
 cases h : (up.contains g.fs[i].ow && !g.fs[i].st) <;> simp only [List.filter_cons,h] <;> simp
theorem objP_mono {g : Img} {up : List Int} (i : Nat) : (objP g up i).length ≤ (objP g up g.fs.length).length:=by
 unfold objP
 rw [List.take_of_length_le (Nat.le_refl g.fs.length)]
 have h : g.fs = g.fs.take i ++ g.fs.drop i:=(List.take_append_drop i g.fs).symm
 have : (g.fs.filter (fun x => up.contains x.ow && !x.st)).flatMap (fun x => celL g x.t) = ((g.fs.take i).filter (fun x => up.contains x.ow && !x.st)).flatMap (fun x => celL g x.t) ++ ((g.fs.drop i).filter (fun x => up.contains x.ow && !x.st)).flatMap (fun x => celL g x.t):=by
  rw [← List.flatMap_append,← List.filter_append,← h]
 rw [this,List.length_append]; omega
theorem ownC_eq (g : Img) (u : Int) : ownC g u = (g.fs.filter (ownF u)).flatMap (fun x => celL g x.t):=by
 unfold ownC hldL
 rw [List.flatMap_map]
theorem objP_len {g : Img} (t : Int) : (objP g (upL g t) g.fs.length).length = (objL g t).length:=by
 have hnd : (upL g t).Nodup:=by have:=(upL_nd g t).2; simpa using this
 have h1:=grp_perm (fun x : FD => x.ow) (fun x : FD => celL g x.t) hnd (g.fs.filter (fun x => !x.st))
 have h2 : (objP g (upL g t) g.fs.length).length = ((upL g t).flatMap (ownC g)).length:=by
  unfold objP
  rw [List.take_of_length_le (Nat.le_refl g.fs.length)]
  rw [List.filter_filter] at h1
  refine h1.length_eq.trans ?_
  congr 1
  refine flatMap_eq fun u _ => ?_
  rw [List.filter_filter,ownC_eq]
  rfl
 rw [h2]
 unfold objL
 exact ((List.reverse_perm (upL g t)).flatMap_right (ownC g)).length_eq.symm
end Go.Proofs.YthpmpdpfnlecmaaGreat
