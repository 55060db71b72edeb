/- Texts joined: RefFaces11. -/
import Derived.Test.YtapocgcdjkbnhaaDoorQ08
import Derived.Test.YtapocgcdjkbnhaaDoorQ04
import Derived.Test.YtapocgcdjkbnhaaDoorQ10
namespace Go.Proofs.YtapocgcdjkbnhaaDoor
set_option linter.unusedVariables false
set_option linter.unusedSimpArgs false
open Go.RowKit
attribute [local go_sem ↓] Go.wp_at_zero Go.wp_at_succ
def outL (M : List Int) (q : Nat) : List Int:=((List.range q).map (fun i : Nat => (i : Int))).filter M.contains
theorem outL_succ (M : List Int) (q : Nat) : outL M (q + 1) = outL M q ++ (if M.contains (q : Int) = true then [(q : Int)] else []):=by
 unfold outL
 rw [List.range_succ,List.map_append,List.filter_append]
 congr 1
 cases h : M.contains (q : Int) <;> simp only [List.map_cons,List.map_nil,List.filter_cons,h] <;> rfl
theorem outL_len (M : List Int) (q : Nat) : (outL M q).length ≤ q:=by
 unfold outL
 refine Nat.le_trans (List.length_filter_le _ _) ?_
 simp
theorem outL_has {n : Nat} {M : List Int} (h : Nd n 0 M) (x : Int) : (outL M n).contains x = M.contains x:=by
 rw [Bool.eq_iff_iff,List.contains_iff_mem,List.contains_iff_mem]
 unfold outL
 rw [List.mem_filter,List.contains_iff_mem,List.mem_map]
 constructor
 ·rintro ⟨_,h⟩; exact h
 ·intro hx
  have:=numB_iff.1 (h.1 x hx)
  exact ⟨⟨x.toNat,List.mem_range.2 (by omega),by omega⟩,hx⟩

structure AtQ (M : List Int) (q : Nat) (j : Nat) (n : Nat) : Prop where
 lt : q < M.length
 eq : M[q] = (j : Int)
theorem AtQ.comeL_len {M : List Int} {q j n : Nat} (h : AtQ M q j n) (ts : List Int) : q < (comeL n M ts).length:=Nat.lt_of_lt_of_le h.lt (comeL_pre n ts M).length_le
theorem AtQ.comeL_at {M : List Int} {q j n : Nat} (h : AtQ M q j n) (ts : List Int) (hq : q < (comeL n M ts).length) : (comeL n M ts)[q] = (j : Int):=by
 rw [← h.eq]
 exact ((comeL_pre n ts M).getElem h.lt).symm

set_option maxHeartbeats 16000000 in
set_option maxRecDepth 100000 in
theorem refFaces_any {g : Img} {t : Int} {w : World} (hg : Im w g) (hi : imB g = true) :
  Calls Tryd.prog 37 #[imV g,.int .i64 t] w fun e w' => ∃ v,e = .returned v∧OwnI w' w.heap.size v (outL (facL g t) g.ts.length)∧Below w.heap.size w w':=by
 obtain ⟨w0,hw0⟩ : ∃ W,W = w.alloc (.cells (imC g) 26):=⟨_,rfl⟩
 have HW0 : Hid (w0 = _):=hw0
 obtain ⟨hb0,hgb⟩:=GB.made hg hw0
 have HB0 : Hid (Below w.heap.size w w0):=hb0
 have HG : Hid (GB w0 w.heap.size g):=hgb
 have HI : Hid (imB g = true):=hi
 have hln:=(im_len hi).1
 have HUp : Hid (Calls Tryd.prog 35 #[.agg (imC g),.int .i64 t] w0 fun e w' => ∃ v,e = .returned v∧OwnI w' w0.heap.size v (upL g t)∧Below w0.heap.size w0 w'):=refUp_any hgb.im hi
 obtain ⟨c0,c1,c2,c3⟩:=hgb.cells
 unfold imC at HW0 HUp
 clear hw0 hb0 hgb hg hi
 unfold imV
 go_enter Tryd.func37,Tryd.ntmps37
 go_wp2_with (rw [← HW0.out])
 refine Calls.mono HUp.out ?_
 rintro e w1 ⟨uv,rfl,hu,hb1⟩
 have HU : Hid (OwnI w1 w0.heap.size uv (upL g t)):=hu
 have HB1 : Hid (Below w0.heap.size w0 w1):=hb1
 have HUN : Hid (Nd g.ts.length 0 (upL g t)):=upL_nd g t
 obtain ⟨up,hup⟩ : ∃ X,X = upL g t:=⟨_,rfl⟩
 have HUE : Hid (facL g t = reachL g.ts.length (fsI g) (up.flatMap (fsI g))):=by show _ = _; rw [hup]; rfl
 rw [← hup] at HU HUN
 obtain ⟨ua,uc,huv,_,_⟩:=(show Is w1 uv up from HU.out.is).shape
 subst huv
 have HTh : Hid (∀ W (t : Int),Below w1.heap.size w1 W → Calls Tryd.prog 9 #[.agg (imC g),.int .i64 t] W fun e w' => e = .returned (.bool (numB t g.ts.length))∧Below W.heap.size W w'):=fun W t hW => refThere_any t (HG.out.im.later (bstep HB1.out hW))
 have HC4 : Hid (∀ W,Below w1.heap.size w1 W → W.cell? ⟨w.heap.size,0,none⟩ = some (.slice g.ta g.ts.length g.tc)∧W.cell? ⟨w.heap.size,1,none⟩ = some (.slice g.fa g.fs.length g.fc)∧W.cell? ⟨w.heap.size,2,none⟩ = some (.slice g.ma g.ms.length g.mc)∧W.cell? ⟨w.heap.size,3,none⟩ = some (.int .i64 g.en)):=fun W hW => (HG.out.later (bstep HB1.out hW)).cells
 have htl:=HG.out.im.ts.len
 have HTY : Hid (∀ j (hj : j < g.ts.length),∃ tb off,g.ta = some ⟨tb,off,none⟩∧g.ts.length ≤ g.tc∧g.tc ≤ maxLen∧∀ W,Below w1.heap.size w1 W → W.cell? ⟨tb,off + j * 4 + 3,none⟩ = some (.slice g.ts[j].fa g.ts[j].fs.length g.ts[j].fc)∧Is W (.slice g.ts[j].fa g.ts[j].fs.length g.ts[j].fc) g.ts[j].fs):=fun j hj => by
  obtain ⟨tb,off,hta,h8,h9,hty⟩:=HG.out.ty (by intro e; rw [e] at hj; simp at hj)
  exact ⟨tb,off,hta,h8,h9,fun W hW => ⟨((hty W (bstep HB1.out hW)).2 j hj).2.2.2,Sl.later (HG.out.im.tok _ (List.getElem_mem hj)).toIs (bstep HB1.out hW)⟩⟩
 unfold imC at HTh
 unfold maxLen at htl
 clear hu hb1 c0 c1 c2 c3 HUp hup
 go_wp2_with fail
 go_loopw [5,7,8,9] (fun lv z _ _ wr => ∃ q : Nat,q ≤ up.length∧z = .int .i64 q∧Hid (OwnI wr w1.heap.size lv (comeL g.ts.length [] ((up.take q).flatMap (fsI g)))∧Nd g.ts.length 0 (comeL g.ts.length [] ((up.take q).flatMap (fsI g))))∧Hid (Below w1.heap.size w1 wr)) (fun _ z _ _ _ => up.length - (intOf z).toNat)
 case atStart => exact ⟨0,Nat.zero_le _,rfl,⟨OwnI.nil _ _,Nd.nil _⟩,Below.refl _ _⟩
 case round =>
  obtain ⟨q,hq,rfl,HO,HB⟩:=hrel
  have hupl:=HUN.out.len
  by_cases hql : q < up.length
  ·obtain ⟨M0,hM0⟩ : ∃ X,X = comeL g.ts.length [] ((up.take q).flatMap (fsI g)):=⟨_,rfl⟩
   rw [← hM0] at HO
   obtain ⟨ub,uoff,hua,hub,_,u6_,u7_,hcu⟩:=(show Is w1 (.slice ua up.length uc) up from HU.out.is).at hql
   subst hua
   obtain ⟨j,hjj,hjl⟩:=num_nat (HUN.out.1 _ (List.getElem_mem hql))
   have HNX : Hid (comeL g.ts.length [] ((up.take (q + 1)).flatMap (fsI g)) = comeL g.ts.length M0 g.ts[j].fs):=by show _ = _; rw [flat_take hql,hjj,fsI_at hjl,comeL_append,← hM0]
   have hcq:=hcu q hql
   rw [hjj] at hcq
   obtain ⟨tb,off,hta,h8,h9,hty⟩:=HTY.out j hjl
   have HCell : Hid (∀ W,Below w1.heap.size w1 W → W.cell? ⟨w.heap.size,0,none⟩ = some (.slice (some ⟨tb,off,none⟩) g.ts.length g.tc)∧W.cell? ⟨ub,uoff + q,none⟩ = some (.int .i64 j)∧W.cell? ⟨tb,off + j * 4 + 3,none⟩ = some (.slice g.ts[j].fa g.ts[j].fs.length g.ts[j].fc)∧W.cell? ⟨w.heap.size,1,none⟩ = some (.slice g.fa g.fs.length g.fc)∧W.cell? ⟨w.heap.size,2,none⟩ = some (.slice g.ma g.ms.length g.mc)∧W.cell? ⟨w.heap.size,3,none⟩ = some (.int .i64 g.en)):=fun W hW => ⟨by have:=(HC4.out W hW).1; rw [hta] at this; exact this,by rw [← hcq]; exact hW.cell (p:=⟨ub,uoff + q,none⟩) hub,(hty W hW).1,(HC4.out W hW).2⟩
   have HTh2 : Hid (∀ W (t : Int),Below w1.heap.size w1 W → Calls Tryd.prog 9 #[.agg #[.slice (some ⟨tb,off,none⟩) g.ts.length g.tc,.slice g.fa g.fs.length g.fc,.slice g.ma g.ms.length g.mc,.int .i64 g.en],.int .i64 t] W fun e w' => e = .returned (.bool (numB t g.ts.length))∧Below W.heap.size W w'):=by show ∀ W (t : Int),_ → _; rw [← hta]; exact HTh.out
   have HFI : Hid (∀ W,Below w1.heap.size w1 W → Is W (.slice g.ts[j].fa g.ts[j].fs.length g.ts[j].fc) g.ts[j].fs):=fun W hW => (hty W hW).2
   have hf4:=(im_type HI.out hjl).2.1
   have hqi : (q : Int) < (up.length : Int):=by omega
   have hji : (j : Int) < (g.ts.length : Int):=by omega
   unfold maxLen at h9 u7_
   clear hcu hcq hty hjj hM0 hta
   generalize g.ts[j] = x at *
   go_wp2_with fail
   go_loopw [5,8,9] (fun lv z _ wr => ∃ k : Nat,k ≤ x.fs.length∧z = .int .i64 k∧Hid (OwnI wr w1.heap.size lv (comeL g.ts.length M0 (x.fs.take k))∧Nd g.ts.length 0 (comeL g.ts.length M0 (x.fs.take k)))∧Hid (Below w1.heap.size w1 wr)) (fun _ z _ _ => x.fs.length - (intOf z).toNat)
   case atStart => exact ⟨0,Nat.zero_le _,rfl,HO.out,HB.out⟩
   case round =>
    clear HO HB
    obtain ⟨k,hk,rfl,HO,HB⟩:=hrel
    have hMl:=HO.out.2.len
    have hlen:=HO.out.1.lenV
    obtain ⟨d0,d1,d2,d4,d5,d6⟩:=HCell.out wr HB.out
    by_cases hkl : k < x.fs.length
    ·have hki : (k : Int) < (x.fs.length : Int):=by omega
     obtain ⟨fb,foff,hfa,hfb,_,h6,h7,hc⟩:=(HFI.out wr HB.out).at hkl
     have d3:=hc k hkl
     have HST : Hid (comeL g.ts.length M0 (x.fs.take (k + 1)) = stepC g.ts.length (comeL g.ts.length M0 (x.fs.take k)) x.fs[k]):=comeL_take hkl
     obtain ⟨M,hM⟩ : ∃ X,X = comeL g.ts.length M0 (x.fs.take k):=⟨_,rfl⟩
     rw [← hM] at HO HST hMl hlen
     rw [hfa] at d2
     unfold maxLen at h7
     clear hc hM hfa
     generalize x.fs[k] = f at *
     go_wp2_with fail
     go_quiet (fail)
     go_wp2_with fail
     go_quiet (fail)
     go_wp2_with fail
     refine Calls.mono (HTh2.out _ f (Below.drewN HB.out _)) ?_
     rintro e w2 ⟨rfl,hb2⟩
     have HB2 : Hid (Below w1.heap.size w1 w2):=bstep (Below.drewN HB.out _) hb2
     have HO2 : Hid (OwnI w2 w1.heap.size u5 M):=OwnI.later (OwnI.later HO.out.1 (Below.drewN (Below.refl _ _) _)) hb2
     clear hb2 d0 d1 d2 d3 d4 d5 d6
     cases hn : numB f g.ts.length with
     | false =>
      have HS2 : Hid (comeL g.ts.length M0 (x.fs.take (k + 1)) = M):=by show _ = _; rw [HST.out,stepC_out hn]
      clear hn
      go_wp2_with fail
      go_roundw
      case rel => exact ⟨k + 1,by omega,by go_num,by rw [HS2.out]; exact ⟨HO2.out,HO.out.2⟩,HB2.out⟩
      case measure => simp [intOf]; omega
     | true =>
      go_wp2_with fail
      refine (refHas_any HO2.out.is f).mono ?_
      rintro e wz ⟨rfl,hz⟩
      subst wz
      cases hh : M.contains f with
      | true =>
       have HS2 : Hid (comeL g.ts.length M0 (x.fs.take (k + 1)) = M):=by show _ = _; rw [HST.out,stepC_old hh]
       clear hn hh
       go_wp2_with fail
       go_roundw
       case rel => exact ⟨k + 1,by omega,by go_num,by rw [HS2.out]; exact ⟨HO2.out,HO.out.2⟩,HB2.out⟩
       case measure => simp [intOf]; omega
      | false =>
       have HS2 : Hid (comeL g.ts.length M0 (x.fs.take (k + 1)) = M ++ [f]):=by show _ = _; rw [HST.out,stepC_new hn hh]
       have HN2 : Hid (Nd g.ts.length 0 (M ++ [f])):=by have:=HO.out.2.step f; rw [stepC_new hn hh] at this; exact this
       clear hn hh
       go_wp2_with (at_builtin; go_must (refine wpList_append_int (v:=u5) rfl (.tmp 59) (.tmp 61) rfl w1.heap.size rfl rfl (HO2.out.later (made_below _ _ _)) (one_int w2 f _ rfl) (by omega) (Nat.le_trans HB2.out.size (made_below _ _ _).size) ?_; intro v5 w5 ho5 hg5; have hB5:=(bbox HB2.out _).trans (grown_below11 (HO2.out.later (made_below _ _ _)) hg5 (Nat.le_refl _) (Nat.le_trans HB2.out.size (made_below _ _ _).size))))
       go_roundw
       case rel => exact ⟨k + 1,by omega,by go_num,by rw [HS2.out]; exact ⟨ho5,HN2.out⟩,hB5⟩
       case measure => simp [intOf]; omega
    ·have hki : ¬ (k : Int) < (x.fs.length : Int):=by omega
     have HE : Hid (comeL g.ts.length M0 (x.fs.take k) = comeL g.ts.length M0 x.fs):=comeL_done hkl
     go_wp2_with fail
     go_quiet (fail)
     go_wp2_with fail
     go_roundw
     case rel => exact ⟨q + 1,by omega,by go_num,by rw [HNX.out,← HE.out]; exact ⟨OwnI.later HO.out.1 (Below.drewN (Below.refl _ _) _),HO.out.2⟩,Below.drewN HB.out _⟩
     case measure => simp [intOf]; omega
  ·have HE1 : Hid (comeL g.ts.length [] ((up.take q).flatMap (fsI g)) = comeL g.ts.length [] (up.flatMap (fsI g))):=by show _ = _; rw [List.take_of_length_le (by omega)]
   rw [HE1.out] at HO
   clear HE1
   go_wp2_with fail
   go_loopw [5,10,11,12] (fun lv z _ _ wr => ∃ (q : Nat) (M : List Int),q ≤ M.length∧z = .int .i64 q∧Hid (OwnI wr w1.heap.size lv M∧Nd g.ts.length 0 M)∧Hid (goL g.ts.length (fsI g) (g.ts.length + 1 - q) q M = facL g t)∧Hid (Below w1.heap.size w1 wr)) (fun _ z _ _ _ => g.ts.length + 1 - (intOf z).toNat)
   case atStart => exact ⟨0,_,Nat.zero_le _,rfl,HO.out,by rw [HUE.out]; rfl,HB.out⟩
   case round =>
    clear HO HB
    obtain ⟨q,M0,hq,rfl,HO,HGo,HB⟩:=hrel
    have hMl0:=HO.out.2.len
    by_cases hql : q < M0.length
    ·obtain ⟨gl0,capl0,hlv0,p1_,p2_,p3_,p4_,p5_⟩:=HO.out.1.parts (by intro e; rw [e] at hql; simp at hql)
     unfold maxLen at p2_
     obtain ⟨j,hjj,hjl⟩:=num_nat (HO.out.2.1 _ (List.getElem_mem hql))
     have HPre : Hid (AtQ M0 q j g.ts.length):=⟨hql,hjj⟩
     have HNX : Hid (goL g.ts.length (fsI g) (g.ts.length + 1 - (q + 1)) (q + 1) (comeL g.ts.length M0 g.ts[j].fs) = facL g t):=by
      show _ = _
      rw [← HGo.out,show g.ts.length + 1 - q = (g.ts.length + 1 - (q + 1)) + 1 by omega,goL_next hql,hjj,fsI_at hjl]
     obtain ⟨tb,off,hta,h8,h9,hty⟩:=HTY.out j hjl
     have HCell : Hid (∀ W,Below w1.heap.size w1 W → W.cell? ⟨w.heap.size,0,none⟩ = some (.slice (some ⟨tb,off,none⟩) g.ts.length g.tc)∧W.cell? ⟨tb,off + j * 4 + 3,none⟩ = some (.slice g.ts[j].fa g.ts[j].fs.length g.ts[j].fc)∧W.cell? ⟨w.heap.size,1,none⟩ = some (.slice g.fa g.fs.length g.fc)∧W.cell? ⟨w.heap.size,2,none⟩ = some (.slice g.ma g.ms.length g.mc)∧W.cell? ⟨w.heap.size,3,none⟩ = some (.int .i64 g.en)):=fun W hW => ⟨by have:=(HC4.out W hW).1; rw [hta] at this; exact this,(hty W hW).1,(HC4.out W hW).2⟩
     have HTh2 : Hid (∀ W (t : Int),Below w1.heap.size w1 W → Calls Tryd.prog 9 #[.agg #[.slice (some ⟨tb,off,none⟩) g.ts.length g.tc,.slice g.fa g.fs.length g.fc,.slice g.ma g.ms.length g.mc,.int .i64 g.en],.int .i64 t] W fun e w' => e = .returned (.bool (numB t g.ts.length))∧Below W.heap.size W w'):=by show ∀ W (t : Int),_ → _; rw [← hta]; exact HTh.out
     have HFI : Hid (∀ W,Below w1.heap.size w1 W → Is W (.slice g.ts[j].fa g.ts[j].fs.length g.ts[j].fc) g.ts[j].fs):=fun W hW => (hty W hW).2
     have hf4:=(im_type HI.out hjl).2.1
     have hji : (j : Int) < (g.ts.length : Int):=by omega
     unfold maxLen at h9
     subst hlv0
     clear p5_ hty hjj hta
     generalize g.ts[j] = x at *
     go_wp2_with fail
     go_loopw [5,11,12] (fun lv z _ wr => ∃ k : Nat,k ≤ x.fs.length∧z = .int .i64 k∧Hid (OwnI wr w1.heap.size lv (comeL g.ts.length M0 (x.fs.take k))∧Nd g.ts.length 0 (comeL g.ts.length M0 (x.fs.take k)))∧Hid (Below w1.heap.size w1 wr)) (fun _ z _ _ => x.fs.length - (intOf z).toNat)
     case atStart => exact ⟨0,Nat.zero_le _,rfl,HO.out,HB.out⟩
     case round =>
      clear HO HB
      obtain ⟨k,hk,rfl,HO,HB⟩:=hrel
      have hMl:=HO.out.2.len
      have hlen:=HO.out.1.lenV
      obtain ⟨d0,d2,d4,d5,d6⟩:=HCell.out wr HB.out
      have hpl:=HPre.out.comeL_len (x.fs.take k)
      obtain ⟨gl,capl,hlv,p1,p2,p3,p4,p5⟩:=HO.out.1.parts (by intro e; rw [e] at hpl; simp at hpl)
      have d1 : wr.cell? ⟨gl,q,none⟩ = some (.int .i64 j):=by rw [p5 q hpl,HPre.out.comeL_at (x.fs.take k) hpl]
      unfold maxLen at p2
      have hqi : (q : Int) < ((comeL g.ts.length M0 (x.fs.take k)).length : Int):=by omega
      subst hlv
      clear p5
      by_cases hkl : k < x.fs.length
      ·have hki : (k : Int) < (x.fs.length : Int):=by omega
       obtain ⟨fb,foff,hfa,hfb,_,h6,h7,hc⟩:=(HFI.out wr HB.out).at hkl
       have d3:=hc k hkl
       have HST : Hid (comeL g.ts.length M0 (x.fs.take (k + 1)) = stepC g.ts.length (comeL g.ts.length M0 (x.fs.take k)) x.fs[k]):=comeL_take hkl
       obtain ⟨M,hM⟩ : ∃ X,X = comeL g.ts.length M0 (x.fs.take k):=⟨_,rfl⟩
       rw [← hM] at HO HST hMl hlen hpl hqi p1
       rw [← hM]
       rw [hfa] at d2
       unfold maxLen at h7
       clear hc hM hfa
       generalize x.fs[k] = f at *
       go_wp2_with fail
       go_quiet (fail)
       go_wp2_with fail
       go_quiet (fail)
       go_wp2_with fail
       refine Calls.mono (HTh2.out _ f (Below.drewN HB.out _)) ?_
       rintro e w2 ⟨rfl,hb2⟩
       have HB2 : Hid (Below w1.heap.size w1 w2):=bstep (Below.drewN HB.out _) hb2
       have HO2 : Hid (OwnI w2 w1.heap.size (.slice (some ⟨gl,0,none⟩) M.length capl) M):=OwnI.later (OwnI.later HO.out.1 (Below.drewN (Below.refl _ _) _)) hb2
       clear hb2 d0 d1 d2 d3 d4 d5 d6
       cases hn : numB f g.ts.length with
       | false =>
        have HS2 : Hid (comeL g.ts.length M0 (x.fs.take (k + 1)) = M):=by show _ = _; rw [HST.out,stepC_out hn]
        clear hn
        go_wp2_with fail
        go_roundw
        case rel => exact ⟨k + 1,by omega,by go_num,by rw [HS2.out]; exact ⟨HO2.out,HO.out.2⟩,HB2.out⟩
        case measure => simp [intOf]; omega
       | true =>
        go_wp2_with fail
        refine (refHas_any HO2.out.is f).mono ?_
        rintro e wz ⟨rfl,hz⟩
        subst wz
        cases hh : M.contains f with
        | true =>
         have HS2 : Hid (comeL g.ts.length M0 (x.fs.take (k + 1)) = M):=by show _ = _; rw [HST.out,stepC_old hh]
         clear hn hh
         go_wp2_with fail
         go_roundw
         case rel => exact ⟨k + 1,by omega,by go_num,by rw [HS2.out]; exact ⟨HO2.out,HO.out.2⟩,HB2.out⟩
         case measure => simp [intOf]; omega
        | false =>
         have HS2 : Hid (comeL g.ts.length M0 (x.fs.take (k + 1)) = M ++ [f]):=by show _ = _; rw [HST.out,stepC_new hn hh]
         have HN2 : Hid (Nd g.ts.length 0 (M ++ [f])):=by have:=HO.out.2.step f; rw [stepC_new hn hh] at this; exact this
         clear hn hh
         go_wp2_with (at_builtin; go_must (refine wpList_append_int (v:=(.slice (some ⟨gl,0,none⟩) M.length capl)) rfl (.tmp 104) (.tmp 106) rfl w1.heap.size rfl rfl (HO2.out.later (made_below _ _ _)) (one_int w2 f _ rfl) (by omega) (Nat.le_trans HB2.out.size (made_below _ _ _).size) ?_; intro v5 w5 ho5 hg5; have hB5:=(bbox HB2.out _).trans (grown_below11 (HO2.out.later (made_below _ _ _)) hg5 (Nat.le_refl _) (Nat.le_trans HB2.out.size (made_below _ _ _).size))))
         go_roundw
         case rel => exact ⟨k + 1,by omega,by go_num,by rw [HS2.out]; exact ⟨ho5,HN2.out⟩,hB5⟩
         case measure => simp [intOf]; omega
      ·have hki : ¬ (k : Int) < (x.fs.length : Int):=by omega
       have HE : Hid (comeL g.ts.length M0 (x.fs.take k) = comeL g.ts.length M0 x.fs):=comeL_done hkl
       go_wp2_with fail
       go_quiet (fail)
       go_wp2_with fail
       go_roundw
       case rel => exact ⟨q + 1,_,by omega,by go_num,⟨OwnI.later HO.out.1 (Below.drewN (Below.refl _ _) _),HO.out.2⟩,by rw [HE.out]; exact HNX.out,Below.drewN HB.out _⟩
       case measure => simp [intOf]; omega
    ·have HE : Hid (M0 = facL g t):=by show _ = _; rw [← HGo.out,goL_end hql]
     obtain ⟨la5,lc5,hlv5,_,_⟩:=(show Is wr u5 M0 from HO.out.1.is).shape
     subst hlv5
     have hqn : ¬ (q : Int) < (M0.length : Int):=by omega
     obtain ⟨wo,hwo⟩ : ∃ W,W = wr:=⟨_,rfl⟩
     have HOo : Hid (OwnI wo w1.heap.size (.slice la5 M0.length lc5) M0):=by show OwnI _ _ _ _; rw [hwo]; exact HO.out.1
     have HBo : Hid (Below w1.heap.size w1 wo):=by show Below _ _ _; rw [hwo]; exact HB.out
     rw [← hwo]
     clear HO HB hwo
     obtain ⟨e0,e1,e2,e3⟩:=HC4.out wo HBo.out
     go_wp2_with fail
     clear e0 e1 e2 e3
     go_loopw [13,14] (fun ov z wr => ∃ q : Nat,q ≤ g.ts.length∧z = .int .i64 q∧Hid (OwnI wr wo.heap.size ov (outL M0 q))∧Hid (Below wo.heap.size wo wr)) (fun _ z _ => g.ts.length - (intOf z).toNat)
     case atStart => exact ⟨0,Nat.zero_le _,rfl,OwnI.nil _ _,Below.refl _ _⟩
     case round =>
      obtain ⟨q,hq2,rfl,HOv,HBv⟩:=hrel
      have HB1v : Hid (Below w1.heap.size w1 wr):=bstep HBo.out HBv.out
      obtain ⟨e0,e1,e2,e3⟩:=HC4.out wr HB1v.out
      have hol:=outL_len M0 q
      by_cases hq3 : q < g.ts.length
      ·have hqi : (q : Int) < (g.ts.length : Int):=by omega
       go_wp2_with fail
       refine (refHas_any (OwnI.later HOo.out HBv.out).is q).mono ?_
       rintro e wz ⟨rfl,hz⟩
       subst wz
       have HS:=outL_succ M0 q
       cases hh : M0.contains (q : Int) with
       | true =>
        have HS2 : Hid (outL M0 (q + 1) = outL M0 q ++ [(q : Int)]):=by show _ = _; rw [HS,if_pos hh]
        clear HS hh e0 e1 e2 e3
        go_wp2_with (at_builtin; go_must (refine wpList_append_int (v:=u13) rfl (.tmp 118) (.tmp 120) rfl wo.heap.size rfl rfl (HOv.out.later (made_below _ _ _)) (one_int wr q _ rfl) (by omega) (Nat.le_trans HBv.out.size (made_below _ _ _).size) ?_; intro v5 w5 ho5 hg5; have hB5:=(bbox HBv.out _).trans (grown_below11 (HOv.out.later (made_below _ _ _)) hg5 (Nat.le_refl _) (Nat.le_trans HBv.out.size (made_below _ _ _).size))))
        go_roundw
        case rel => exact ⟨q + 1,by omega,by go_num,by rw [HS2.out]; exact ho5,hB5⟩
        case measure => simp [intOf]; omega
       | false =>
        have HS2 : Hid (outL M0 (q + 1) = outL M0 q):=by show _ = _; rw [HS,if_neg (by rw [hh]; decide),List.append_nil]
        clear HS hh e0 e1 e2 e3
        go_wp2_with fail
        go_roundw
        case rel => exact ⟨q + 1,by omega,by go_num,by rw [HS2.out]; exact HOv.out,HBv.out⟩
        case measure => simp [intOf]; omega
      ·have hqi : ¬ (q : Int) < (g.ts.length : Int):=by omega
       have hqn : q = g.ts.length:=by omega
       have HF : Hid (outL M0 q = outL (facL g t) g.ts.length):=by show _ = _; rw [HE.out,hqn]
       have HB01 : Hid (Below w.heap.size w wr):=bstep HB0.out (bstep HB1.out HB1v.out)
       have hsz : w.heap.size ≤ wo.heap.size:=Nat.le_trans HB0.out.size (Nat.le_trans HB1.out.size HBo.out.size)
       clear hqn
       go_wp2_with fail
       go_ret
       exact ⟨_,rfl,by rw [← HF.out]; exact HOv.out.mono hsz,HB01.out⟩
end Go.Proofs.YtapocgcdjkbnhaaDoor
