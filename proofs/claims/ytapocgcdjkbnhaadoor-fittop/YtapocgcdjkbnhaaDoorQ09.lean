/- Texts joined: Faces11. -/
import Derived.Test.YtapocgcdjkbnhaaDoorQ08
import Derived.Test.YtapocgcdjkbnhaaDoorQ04
import Derived.Sort.OwnSortedInts
namespace Go.Proofs.YtapocgcdjkbnhaaDoor
set_option linter.unusedVariables false
set_option linter.unusedSimpArgs false
open Go.RowKit
attribute [local go_sem ↓] Go.wp_at_zero Go.wp_at_succ
theorem sort11_any {w : World} {base : Nat} {v : Value} {l : List Int} (h : OwnI w base v l) (hl : l.length ≤ 100000) :
  Calls Tryd.prog 46 #[v] w fun e w' => e = .returned (.tuple #[])∧∃ l',l'.Perm l∧OwnI w' base v l'∧w.grownBy w' v.ownBlock:=by
 rcases h.2 with ⟨rfl,h0⟩ | ⟨g,cap,cur,hv,hbase,hb,h1,h2,h3,h4⟩
 ·have : l = []:=List.eq_nil_of_length_eq_zero (by rw [i64s_length] at h0; exact h0)
  subst this
  refine (slices_Sort_int_none none 0 w).mono ?_
  rintro e w' ⟨rfl,rfl⟩
  exact ⟨rfl,[],List.Perm.refl _,h,⟨rfl,rfl,rfl,Nat.le_refl _,fun _ _ _ => rfl⟩⟩
 ·subst hv
  rw [i64s_length] at h1 h4 ⊢
  have h4' : cur.toList.take l.length = l.map (Value.int .i64):=by simpa [i64s] using h4
  have hH:=holds_of_blockI hb h4'
  refine (slices_Sort_int g 0 cap l w hH (Array.getElem?_eq_some_iff.1 hb).1 (by omega)).mono ?_
  rintro e w' ⟨rfl,n,os,rfl⟩
  have hp:=List.mergeSort_perm l (fun x y => decide (x ≤ y))
  refine ⟨rfl,_,hp, ?_,grownBy_sortedI _⟩
  have:=ownsRow_sortedI (n:=n) (os:=os) (ts:=l.mergeSort fun x y => decide (x ≤ y)) (ss:=l) hp.length_eq hbase hb h1 h2 h3
  unfold OwnI OwnV
  rw [i64s_length,hp.length_eq]
  exact this

theorem flat_len {f : Int → List Int} {m : Nat} : ∀ (l : List Int),(∀ x ∈ l,(f x).length ≤ m) → (l.flatMap f).length ≤ l.length * m
 | [],_ => by simp
 | x :: r,h => by
  have h1:=flat_len r (fun y hy => h y (List.mem_cons_of_mem _ hy))
  have h2:=h x (by simp)
  simp only [List.flatMap_cons,List.length_append,List.length_cons,Nat.add_mul]
  omega

set_option maxHeartbeats 4000000 in
set_option maxRecDepth 100000 in
theorem faces_any {g : Img} {t : Int} {w : World} (hg : Im w g) (hi : imB g = true) (hw : Wf t) :
  Calls Tryd.prog 29 #[imV g,.int .i64 t] w fun e w' => ∃ v l,e = .returned v∧l.Perm (facL g t)∧OwnI w' w.heap.size v l∧Below w.heap.size w w':=by
 obtain ⟨w0,hw0⟩ : ∃ W,W = w.alloc (.cells (imC g) 26):=⟨_,rfl⟩
 have HW0 : Hid (w0 = _):=hw0
 obtain ⟨hb0,hgb⟩:=GB.made hg hw0
 have HB0 : Hid (Below w.heap.size w w0):=hb0
 have HG : Hid (GB w0 w.heap.size g):=hgb
 have HI : Hid (imB g = true):=hi
 have hln:=(im_len hi).1
 have HK : Hid (∀ W,Below w0.heap.size w0 W → W.cell? ⟨w.heap.size,0,none⟩ = some (.slice g.ta g.ts.length g.tc)∧W.cell? ⟨w.heap.size,1,none⟩ = some (.slice g.fa g.fs.length g.fc)∧W.cell? ⟨w.heap.size,2,none⟩ = some (.slice g.ma g.ms.length g.mc)∧W.cell? ⟨w.heap.size,3,none⟩ = some (.int .i64 g.en)):=fun W hW => (hgb.later hW).cells
 have HUp : Hid (Calls Tryd.prog 28 #[.agg (imC g),.int .i64 t] w0 fun e w' => ∃ v,e = .returned v∧OwnI w' w0.heap.size v (upL g t)∧Below w0.heap.size w0 w'):=up_any hgb.im hi hw
 have HFl : Hid (∀ q : Nat,((upL g t).take q).flatMap (fsI g) = ((upL g t).take q).flatMap (fsI g)∧(((upL g t).take q).flatMap (fsI g)).length ≤ 200):=fun q => by
  refine ⟨rfl, ?_⟩
  have h1:=(upL_nd g t).len
  have h2:=flat_len (f:=fsI g) (m := 4) ((upL g t).take q) (fun x hx => by
   obtain ⟨k,rfl,hk⟩:=num_nat ((upL_nd g t).1 x (List.mem_of_mem_take hx))
   rw [fsI_at hk]; exact (im_type hi hk).2.1)
  rw [List.length_take] at h2
  omega
 obtain ⟨c0,c1,c2,c3⟩:=hgb.cells
 unfold imC at HW0 HUp
 clear hw0 hb0 hgb hg hi hw
 unfold imV
 go_enter Tryd.func29,Tryd.ntmps29
 go_wp2_with (rw [← HW0.out])
 refine Calls.mono HUp.out ?_
 rintro e w1 ⟨uv,rfl,hu,hb1⟩
 have HU : Hid (OwnI w1 w0.heap.size uv (upL g t)):=hu
 have HB1 : Hid (Below w0.heap.size w0 w1):=hb1
 have HUN : Hid (Nd g.ts.length 0 (upL g t)):=upL_nd g t
 obtain ⟨up,hup⟩ : ∃ X,X = upL g t:=⟨_,rfl⟩
 have HUE : Hid (facL g t = reachL g.ts.length (fsI g) (up.flatMap (fsI g))):=by show _ = _; rw [hup]; rfl
 rw [← hup] at HU HUN HFl
 obtain ⟨ua,uc,huv,_,_⟩:=(show Is w1 uv up from HU.out.is).shape
 subst huv
 clear hu hb1 c0 c1 c2 c3 HUp hup
 go_wp2_with fail
 go_loopw [5,7,13] (fun lv _ z wr => ∃ q : Nat,q ≤ up.length∧z = .int .i64 q∧Hid (OwnI wr w1.heap.size lv ((up.take q).flatMap (fsI g)))∧Hid (Below w1.heap.size w1 wr)) (fun _ _ z _ => up.length - (intOf z).toNat)
 case atStart => exact ⟨0,Nat.zero_le _,rfl,OwnI.nil _ _,Below.refl _ _⟩
 case round =>
  obtain ⟨q,hq,rfl,HO,HB⟩:=hrel
  have hupl:=HUN.out.len
  by_cases hql : q < up.length
  ·obtain ⟨ub,uoff,hua,hub,_,h6,h7,hc⟩:=(show Is wr (.slice ua up.length uc) up from Sl.later HU.out.is HB.out).at hql
   have cq:=hc q hql
   obtain ⟨k,hkk,hkl⟩:=num_nat (HUN.out.1 _ (List.getElem_mem hql))
   have HT : Hid ((up.take (q + 1)).flatMap (fsI g) = (up.take q).flatMap (fsI g) ++ g.ts[k].fs):=by show _ = _; rw [flat_take hql,hkk,fsI_at hkl]
   have HLn : Hid (((up.take q).flatMap (fsI g)).length ≤ 200):=(HFl.out q).2
   rw [hkk] at cq
   obtain ⟨tb,off,hta,h8,h9,hty⟩:=HG.out.ty (by intro e; rw [e] at hkl; simp at hkl)
   obtain ⟨d0,hd⟩:=hty wr (HB1.out.trans (HB.out.mono HB1.out.size))
   obtain ⟨_,_,_,d3⟩:=hd k hkl
   have HFs : Hid (∀ W,Below w0.heap.size w0 W → Is W (.slice g.ts[k].fa g.ts[k].fs.length g.ts[k].fc) g.ts[k].fs):=fun W hW => Sl.later (HG.out.im.tok _ (List.getElem_mem hkl)).toIs hW
   have hf4:=(im_type HI.out hkl).2.1
   subst hua
   unfold maxLen at h7 h9
   clear hc hty hkk hta hd
   generalize g.ts[k] = x at *
   have HB01 : Hid (Below w0.heap.size w0 wr):=HB1.out.trans (HB.out.mono HB1.out.size)
   go_wp2_with (at_builtin; go_must (refine wpList_append_at rfl (.tmp 17) (.tmp 23) 40 40 rfl w1.heap.size 3 (.int .i64 0) 8 Tryd.underlying40 Tryd.infoInt7 rfl (v:=u5) (y := .slice x.fa x.fs.length x.fc) rfl rfl HO.out (Sl.src (HFs.out _ HB01.out) Tryd.underlying40 (i64s_one _)) (by have:=HLn.out; rw [i64s_length,i64s_length]; unfold maxLen; omega) (by have:=HLn.out; rw [i64s_length,i64s_length]; omega) HB.out.size ?_; intro v5 w5 ho5 hg5 hp5 hs5))
   have HO5 : Hid (OwnI w5 w1.heap.size v5 ((up.take q).flatMap (fsI g) ++ x.fs)):=by
    show OwnV _ _ _ _ _
    rw [i64s_append]; exact ho5
   have HB5 : Hid (Below w1.heap.size w1 w5):=HB.out.trans (grown_below11 HO.out hg5 (Nat.le_refl _) HB.out.size)
   clear ho5 hg5 hp5 hs5 d0 d3 cq
   go_roundw
   case rel => exact ⟨q + 1,by omega,by go_num,by rw [HT.out]; exact HO5.out,HB5.out⟩
   case measure => simp [intOf]; omega
  ·have HOw : Hid (OwnI wr w1.heap.size u5 (up.flatMap (fsI g))):=by
    have:=HO.out
    rwa [List.take_of_length_le (by omega)] at this
   have HB01 : Hid (Below w0.heap.size w0 wr):=HB1.out.trans (HB.out.mono HB1.out.size)
   have HKr : Hid (∀ W,Below wr.heap.size wr W → W.cell? ⟨w.heap.size,0,none⟩ = some (.slice g.ta g.ts.length g.tc)∧W.cell? ⟨w.heap.size,1,none⟩ = some (.slice g.fa g.fs.length g.fc)∧W.cell? ⟨w.heap.size,2,none⟩ = some (.slice g.ma g.ms.length g.mc)∧W.cell? ⟨w.heap.size,3,none⟩ = some (.int .i64 g.en)):=fun W hW => HK.out W (bstep HB01.out hW)
   have HGO : Hid (∀ W kb,Below wr.heap.size wr W → At W kb (imC g) 26 → Calls Tryd.prog 43 #[.agg (imC g),u5,.func (.func 54) #[] #[.pointer (some ⟨kb,0,none⟩)]] W fun e w' => ∃ v,e = .returned v∧OwnI w' wr.heap.size v (facL g t)∧Below wr.heap.size wr w'):=by
    intro W kb hbW hkb
    have hGB : GB W kb g:=⟨hkb,HG.out.im.later (bstep HB01.out hbW)⟩
    refine (goOn_any hGB.im (by omega) (HOw.out.later hbW).is (fun _ k hk => ((HOw.out.later hbW).block k hk).2) (fun x hx => ?_) (steps_fac hGB HI.out)).mono ?_
    ·obtain ⟨y,hy,hx⟩:=List.mem_flatMap.1 hx
     obtain ⟨k,rfl,hkl⟩:=num_nat (HUN.out.1 y hy)
     rw [fsI_at hkl] at hx
     exact wf_num (by omega) ((im_type HI.out hkl).2.2 x hx)
    ·rintro e w' ⟨v,rfl,ho,hb⟩
     rw [← HUE.out] at ho
     exact ⟨v,rfl,ho.mono hbW.size,bstep hbW hb⟩
   have HBF : Hid (∀ W,Calls Tryd.prog 45 #[.agg (imC g)] W fun e w' => e = .returned (.func (.func 54) #[] #[.pointer (some ⟨W.heap.size,0,none⟩)])∧w' = W.alloc (.cells (imC g) 26)):=fun W => byFaces_any W
   obtain ⟨c0,c1,c2,c3⟩:=HKr.out wr (Below.refl _ _)
   clear HO HB
   go_wp2_with fail
   go_region_held3 (fun W => W.cell? ⟨w.heap.size,0,none⟩ = some (.slice g.ta g.ts.length g.tc)∧W.cell? ⟨w.heap.size,1,none⟩ = some (.slice g.fa g.fs.length g.fc)∧W.cell? ⟨w.heap.size,2,none⟩ = some (.slice g.ma g.ms.length g.mc)∧W.cell? ⟨w.heap.size,3,none⟩ = some (.int .i64 g.en))
    (first | (exact HKr.out _ hb2) | (exact HKr.out _ (bdrew _)) | (exact HKr.out _ (bbox (bdrew _) _)))
    (first | (go_at_call 45; refine (HBF.out _).mono ?_; rintro e w2 ⟨rfl,hz1⟩; subst hz1) | (go_at_call 43; refine (HGO.out _ _ (bbox (bdrew _) _) (At.made _ _ _)).mono ?_; rintro e w3 ⟨v,rfl,ho2,hb2⟩))
   rename_i hheld
   clear hheld
   have HB3 : Hid (Below w0.heap.size w0 w3):=bstep HB01.out hb2
   have HO3 : Hid (OwnI w3 wr.heap.size v (facL g t)):=ho2
   have HSo : Hid (Calls Tryd.prog 46 #[v] w3 fun e w' => e = .returned (.tuple #[])∧∃ l',l'.Perm (facL g t)∧OwnI w' wr.heap.size v l'∧w3.grownBy w' v.ownBlock):=sort11_any ho2 (by have:=reachL_len g.ts.length (fsI g) ((upL g t).flatMap (fsI g)); unfold facL; omega)
   clear ho2 hb2 c0 c1 c2 c3
   go_wp2_with fail
   refine Calls.mono HSo.out ?_
   rintro e w4 ⟨rfl,l',hperm,ho4,hg4⟩
   have HB4 : Hid (Below w0.heap.size w0 w4):=HB3.out.trans (grown_below11 HO3.out hg4 HB01.out.size HB3.out.size)
   have HO4 : Hid (OwnI w4 wr.heap.size v l'):=ho4
   clear ho4 hg4
   go_wp2_with fail
   go_ret
   exact ⟨_,l',rfl,hperm,HO4.out.mono (Nat.le_trans HB0.out.size HB01.out.size),bstep HB0.out HB4.out⟩

set_option maxHeartbeats 2000000 in
theorem below_any {g : Img} {a b : Int} {w : World} (hg : Im w g) (hi : imB g = true) (hw : Wf a) :
  Calls Tryd.prog 18 #[imV g,.int .i64 a,.int .i64 b] w fun e w' => e = .returned (.bool (belB g a b))∧Below w.heap.size w w':=by
 obtain ⟨w0,hw0⟩ : ∃ W,W = w.alloc (.cells (imC g) 26):=⟨_,rfl⟩
 have HW0 : Hid (w0 = _):=hw0
 obtain ⟨hb0,hgb⟩:=GB.made hg hw0
 have HB0 : Hid (Below w.heap.size w w0):=hb0
 have HK : Hid (∀ W,Below w0.heap.size w0 W → GB W w.heap.size g):=fun W hW => hgb.later hW
 have HUp : Hid (Calls Tryd.prog 28 #[.agg (imC g),.int .i64 a] w0 fun e w' => ∃ v,e = .returned v∧OwnI w' w0.heap.size v (upL g a)∧Below w0.heap.size w0 w'):=up_any hgb.im hi hw
 have HFa : Hid (∀ W,Below w0.heap.size w0 W → Calls Tryd.prog 29 #[.agg (imC g),.int .i64 a] W fun e w' => ∃ v l,e = .returned v∧l.Perm (facL g a)∧OwnI w' W.heap.size v l∧Below W.heap.size W w'):=fun W hW => faces_any (hgb.im.later hW) hi hw
 have HR : Hid (belB g a b = ((upL g a).contains b || (facL g a).contains b)):=rfl
 obtain ⟨c0,c1,c2,c3⟩:=hgb.cells
 unfold imC at HW0 HUp HFa
 clear hw0 hb0 hgb hg hi hw
 unfold imV
 go_enter Tryd.func18,Tryd.ntmps18
 go_wp2_with (rw [← HW0.out])
 refine Calls.mono HUp.out ?_
 rintro e w1 ⟨uv,rfl,hu,hb1⟩
 have HB1 : Hid (Below w0.heap.size w0 w1):=hb1
 have HCo : Hid (Calls Tryd.prog 27 #[uv,.int .i64 b] w1 fun e w' => e = .returned (.bool ((upL g a).contains b))∧w' = w1):=contains11_any hu.is b
 clear hu hb1 c0 c1 c2 c3 HUp
 go_wp2_with fail
 refine Calls.mono HCo.out ?_
 rintro e wz ⟨rfl,hz⟩
 subst wz
 cases hc : (upL g a).contains b with
 | true =>
  have HE : Hid (belB g a b = true):=by show _ = _; rw [HR.out,hc]; rfl
  clear hc HCo HR
  go_wp2_with fail
  go_ret
  exact ⟨ret_bool HE.out.symm,bstep HB0.out HB1.out⟩
 | false =>
  have HE : Hid (belB g a b = (facL g a).contains b):=by show _ = _; rw [HR.out,hc]; rfl
  obtain ⟨c0,c1,c2,c3⟩:=(HK.out w1 HB1.out).cells
  clear hc HCo HR
  go_wp2_with fail
  refine Calls.mono (HFa.out w1 HB1.out) ?_
  rintro e w2 ⟨fv,l,rfl,hp,hf,hb2⟩
  have HB2 : Hid (Below w0.heap.size w0 w2):=bstep HB1.out hb2
  have HLc : Hid (l.contains b = (facL g a).contains b):=by
   show _ = _
   rw [Bool.eq_iff_iff,List.contains_iff_mem,List.contains_iff_mem]
   exact hp.mem_iff
  have HC2 : Hid (Calls Tryd.prog 27 #[fv,.int .i64 b] w2 fun e w' => e = .returned (.bool (l.contains b))∧w' = w2):=contains11_any hf.is b
  clear hf hb2 c0 c1 c2 c3 hp
  go_wp2_with fail
  refine Calls.mono HC2.out ?_
  rintro e wz ⟨rfl,hz⟩
  subst wz
  generalize l.contains b = r at *
  go_wp2_with fail
  go_ret
  exact ⟨ret_bool (by rw [HE.out,HLc.out]),bstep HB0.out HB2.out⟩
end Go.Proofs.YtapocgcdjkbnhaaDoor
