/- Texts joined: RefFlag11, LaySpec. -/
import Derived.Test.YthpmpdpfnlecmaaGreatQ11
import Derived.Test.YthpmpdpfnlecmaaGreatQ06
namespace Go.Proofs.YthpmpdpfnlecmaaGreat
set_option linter.unusedVariables false
set_option linter.unusedSimpArgs false
open Go.RowKit
attribute [local go_sem ↓] Go.wp_at_zero Go.wp_at_succ
theorem pkN_append {α : Type} (p : α → Bool) : ∀ (a b : List α) (i : Int),pkN p i (a ++ b) = pkN p i a ++ pkN p (i + (a.length : Int)) b
 | [],b,i => by simp [pkN]
 | c :: r,b,i => by
  simp only [List.cons_append,pkN,pkN_append p r b (i + 1),List.append_assoc,List.length_cons]
  rw [show i + 1 + (r.length : Int) = i + ((r.length + 1 : Nat) : Int) by omega]
theorem pkN_take {α : Type} (p : α → Bool) (l : List α) (q : Nat) (h : q < l.length) : pkN p 0 (l.take (q + 1)) = pkN p 0 (l.take q) ++ (if p l[q] = true then [(q : Int)] else []):=by
 rw [List.take_succ_eq_append_getElem h,pkN_append,List.length_take,Nat.min_eq_left (by omega)]
 simp [pkN]
theorem pkN_len {α : Type} (p : α → Bool) : ∀ (l : List α) (i : Int),(pkN p i l).length ≤ l.length
 | [],_ => by simp [pkN]
 | c :: r,i => by
  have:=pkN_len p r (i + 1)
  simp only [pkN,List.length_append,List.length_cons]
  split <;> simp <;> omega
theorem pkN_num {α : Type} (p : α → Bool) : ∀ (l : List α) (i : Nat),∀ x ∈ pkN p (i : Int) l,∃ k,x = ((i + k : Nat) : Int)∧∃ h : k < l.length,p l[k] = true
 | [],_,x,h => by simp [pkN] at h
 | c :: r,i,x,h => by
  simp only [pkN,List.mem_append] at h
  rcases h with h | h
  ·split at h
   ·rename_i hc
    simp at h
    exact ⟨0,by rw [h]; simp,by simp,by simpa using hc⟩
   ·simp at h
  ·rw [show ((i : Int) + 1) = ((i + 1 : Nat) : Int) by omega] at h
   obtain ⟨k,rfl,hk,hp⟩:=pkN_num p r (i + 1) x h
   exact ⟨k + 1,by congr 1; omega,by simpa using hk,by simpa using hp⟩
theorem fldN_num {g : Img} {t x : Int} (h : x ∈ fldN g t) : ∃ k : Nat,x = (k : Int)∧k < g.fs.length:=by
 unfold fldN at h
 split at h
 ·obtain ⟨k,rfl,hk,_⟩:=pkN_num _ _ 0 x h
  exact ⟨k,by simp,hk⟩
 ·simp at h
theorem mtdN_num {g : Img} {t x : Int} (h : x ∈ mtdN g t) : ∃ k : Nat,x = (k : Int)∧k < g.ms.length:=by
 unfold mtdN at h
 split at h
 ·obtain ⟨k,rfl,hk,_⟩:=pkN_num _ _ 0 x h
  exact ⟨k,by simp,hk⟩
 ·simp at h
theorem fldN_len (g : Img) (t : Int) : (fldN g t).length ≤ g.fs.length:=by
 unfold fldN; split
 ·exact pkN_len _ _ _
 ·simp
theorem mtdN_len (g : Img) (t : Int) : (mtdN g t).length ≤ g.ms.length:=by
 unfold mtdN; split
 ·exact pkN_len _ _ _
 ·simp

set_option maxHeartbeats 8000000 in
theorem refFlagged_any {g : Img} {q : Nat} {w : World} (hg : Im w g) (hi : imB g = true) (hq : q < g.ts.length) :
  Calls Tryz.prog 65 #[imV g,.int .i64 q] w fun e w' => e = .returned (.bool (flgF g.ts[q].fl g.ts[q].ex))∧Below w.heap.size w w':=by
 obtain ⟨w0,hw0⟩ : ∃ W,W = w.alloc (.cells (imC g) 26):=⟨_,rfl⟩
 have HW0 : Hid (w0 = _):=hw0
 obtain ⟨hb0,hgb⟩:=GB.made hg hw0
 have HB0 : Hid (Below w.heap.size w w0):=hb0
 have hfq:=FlOk.of hi _ (List.getElem_mem hq)
 have HKd : Hid (Calls Tryz.prog 27 #[.agg (imC g),.int .i64 q] w0 fun e w' => e = .returned (.int .i64 (kindF g.ts[q].fl))∧Below w0.heap.size w0 w'):=by
  have:=refKind_any (q : Int) hgb.im (FlOk.of hi)
  rwa [knd_at hq] at this
 obtain ⟨tb,off,hta,h8,h9,hty⟩:=hgb.ty (by intro e; rw [e] at hq; simp at hq)
 obtain ⟨c0,hd⟩:=hty w0 (Below.refl _ _)
 obtain ⟨k0,k1,k2,k3⟩:=hd q hq
 obtain ⟨_,c1,c2,c3⟩:=hgb.cells
 have HBt : Hid (∀ (k : Nat) (_ : 1 ≤ k∧k ≤ 16) W,Calls Tryz.prog 60 #[.int .i64 g.ts[q].fl,.int .i64 (k : Int)] W fun e w' => e = .returned (.bool (bitB g.ts[q].fl k))∧w' = W):=fun k hk W => refBit_any hfq hk W
 have hqi : (q : Int) < (g.ts.length : Int):=by omega
 unfold imC at HW0 HKd
 unfold maxLen at h9
 rw [hta] at HKd
 clear hw0 hb0 hgb hg hi hfq hty hd
 have HTA : Hid (g.ta = _):=hta
 clear hta
 generalize g.ts[q] = x at *
 obtain ⟨f,hf⟩ : ∃ f,f = x.fl:=⟨_,rfl⟩
 rw [← hf] at HKd HBt k1
 rw [← hf]
 clear hf
 unfold imV
 go_enter Tryz.func65,Tryz.ntmps65
 go_wp2_with (rw [← HW0.out])
 refine Calls.mono HKd.out ?_
 rintro e w1 ⟨rfl,hb1⟩
 have HB1 : Hid (Below w.heap.size w w1):=bstep HB0.out hb1
 clear hb1 c0 c1 c2 c3 k0 k1 k2 k3 HKd
 by_cases h2 : kindF f = 2
 ·have HR : Hid (flgF f x.ex = (decide (x.ex = -1) && (bitB f 4 && !bitB f 1 && !bitB f 8 && !bitB f 16))):=by show _ = _; unfold flgF; rw [if_pos h2]
  rw [h2]
  clear h2
  by_cases he : x.ex = -1
  ·have he' : (x.ex == -1) = true:=by simpa using he
   have hde : decide (x.ex = -1) = true:=decide_eq_true he
   clear he
   go_wp2_with fail
   refine (HBt.out 4 (by omega) _).mono ?_
   rintro e wz ⟨rfl,hz⟩
   subst wz
   cases hb4 : bitB f 4 with
   | true =>
    go_wp2_with fail
    refine (HBt.out 1 (by omega) _).mono ?_
    rintro e wz ⟨rfl,hz⟩
    subst wz
    cases hb1 : bitB f 1 with
    | true =>
     go_wp2_with fail
     go_ret
     exact ⟨ret_bool (by rw [HR.out]; simp [hde,hb4,hb1]),HB1.out⟩
    | false =>
     go_wp2_with fail
     refine (HBt.out 8 (by omega) _).mono ?_
     rintro e wz ⟨rfl,hz⟩
     subst wz
     cases hb8 : bitB f 8 with
     | true =>
      go_wp2_with fail
      go_ret
      exact ⟨ret_bool (by rw [HR.out]; simp [hde,hb4,hb1,hb8]),HB1.out⟩
     | false =>
      go_wp2_with fail
      refine (HBt.out 16 (by omega) _).mono ?_
      rintro e wz ⟨rfl,hz⟩
      subst wz
      cases hb16 : bitB f 16 with
      | true =>
       go_wp2_with fail
       go_ret
       exact ⟨ret_bool (by rw [HR.out]; simp [hde,hb4,hb1,hb8,hb16]),HB1.out⟩
      | false =>
       go_wp2_with fail
       go_ret
       exact ⟨ret_bool (by rw [HR.out]; simp [hde,hb4,hb1,hb8,hb16]),HB1.out⟩
   | false =>
    go_wp2_with fail
    go_ret
    exact ⟨ret_bool (by rw [HR.out]; simp [hde,hb4]),HB1.out⟩
  ·have he' : (x.ex == -1) = false:=by simpa using he
   have hde : decide (x.ex = -1) = false:=decide_eq_false he
   clear he
   go_wp2_with fail
   go_ret
   exact ⟨ret_bool (by rw [HR.out]; simp [hde]),HB1.out⟩
 ·by_cases h1 : kindF f = 1
  ·have HR : Hid (flgF f x.ex = (decide (x.ex = -1) && (bitB f 8 && !bitB f 4 && !bitB f 16))):=by show _ = _; unfold flgF; rw [if_neg h2,if_pos h1]
   rw [h1]
   clear h1 h2
   by_cases he : x.ex = -1
   ·have he' : (x.ex == -1) = true:=by simpa using he
    have hde : decide (x.ex = -1) = true:=decide_eq_true he
    clear he
    go_wp2_with fail
    refine (HBt.out 8 (by omega) _).mono ?_
    rintro e wz ⟨rfl,hz⟩
    subst wz
    cases hb8 : bitB f 8 with
    | true =>
     go_wp2_with fail
     refine (HBt.out 4 (by omega) _).mono ?_
     rintro e wz ⟨rfl,hz⟩
     subst wz
     cases hb4 : bitB f 4 with
     | true =>
      go_wp2_with fail
      go_ret
      exact ⟨ret_bool (by rw [HR.out]; simp [hde,hb8,hb4]),HB1.out⟩
     | false =>
      go_wp2_with fail
      refine (HBt.out 16 (by omega) _).mono ?_
      rintro e wz ⟨rfl,hz⟩
      subst wz
      cases hb16 : bitB f 16 with
      | true =>
       go_wp2_with fail
       go_ret
       exact ⟨ret_bool (by rw [HR.out]; simp [hde,hb8,hb4,hb16]),HB1.out⟩
      | false =>
       go_wp2_with fail
       go_ret
       exact ⟨ret_bool (by rw [HR.out]; simp [hde,hb8,hb4,hb16]),HB1.out⟩
    | false =>
     go_wp2_with fail
     go_ret
     exact ⟨ret_bool (by rw [HR.out]; simp [hde,hb8]),HB1.out⟩
   ·have he' : (x.ex == -1) = false:=by simpa using he
    have hde : decide (x.ex = -1) = false:=decide_eq_false he
    clear he
    go_wp2_with fail
    go_ret
    exact ⟨ret_bool (by rw [HR.out]; simp [hde]),HB1.out⟩
  ·by_cases h3 : kindF f = 3
   ·have HR : Hid (flgF f x.ex = (decide (x.ex = -1) && (bitB f 8 && !bitB f 4))):=by show _ = _; unfold flgF; rw [if_neg h2,if_neg h1,if_pos h3]
    rw [h3]
    clear h1 h2 h3
    by_cases he : x.ex = -1
    ·have he' : (x.ex == -1) = true:=by simpa using he
     have hde : decide (x.ex = -1) = true:=decide_eq_true he
     clear he
     go_wp2_with fail
     refine (HBt.out 8 (by omega) _).mono ?_
     rintro e wz ⟨rfl,hz⟩
     subst wz
     cases hb8 : bitB f 8 with
     | true =>
      go_wp2_with fail
      refine (HBt.out 4 (by omega) _).mono ?_
      rintro e wz ⟨rfl,hz⟩
      subst wz
      cases hb4 : bitB f 4 with
      | true =>
       go_wp2_with fail
       go_ret
       exact ⟨ret_bool (by rw [HR.out]; simp [hde,hb8,hb4]),HB1.out⟩
      | false =>
       go_wp2_with fail
       go_ret
       exact ⟨ret_bool (by rw [HR.out]; simp [hde,hb8,hb4]),HB1.out⟩
     | false =>
      go_wp2_with fail
      go_ret
      exact ⟨ret_bool (by rw [HR.out]; simp [hde,hb8]),HB1.out⟩
    ·have he' : (x.ex == -1) = false:=by simpa using he
     have hde : decide (x.ex = -1) = false:=decide_eq_false he
     clear he
     go_wp2_with fail
     go_ret
     exact ⟨ret_bool (by rw [HR.out]; simp [hde]),HB1.out⟩
   ·have HR : Hid (flgF f x.ex = true):=by show _ = _; unfold flgF; rw [if_neg h2,if_neg h1,if_neg h3]
    have h0 : kindF f = 0:=by unfold kindF at h1 h2 h3 ⊢; split <;> simp_all
    rw [h0]
    clear h0 h1 h2 h3
    go_wp2_with fail
    go_ret
    exact ⟨ret_bool HR.out.symm,HB1.out⟩

set_option maxHeartbeats 4000000 in
set_option maxRecDepth 100000 in
theorem refFields_any {g : Img} {t : Int} {w : World} (hg : Im w g) (hi : imB g = true) :
  Calls Tryz.prog 117 #[imV g,.int .i64 t] w fun e w' => ∃ v,e = .returned v∧OwnI w' w.heap.size v (fldN g t)∧Below w.heap.size w w':=by
 obtain ⟨w0,hw0⟩ : ∃ W,W = w.alloc (.cells (imC g) 26):=⟨_,rfl⟩
 have HW0 : Hid (w0 = _):=hw0
 obtain ⟨hb0,hgb⟩:=GB.made hg hw0
 have HB0 : Hid (Below w.heap.size w w0):=hb0
 have HG : Hid (GB w0 w.heap.size g):=hgb
 have hln:=im_len hi
 have HTh : Hid (∀ W,Below w0.heap.size w0 W → Calls Tryz.prog 59 #[.agg (imC g),.int .i64 t] W fun e w' => e = .returned (.bool (numB t g.ts.length))∧Below W.heap.size W w'):=fun W hW => refThere_any t (hgb.im.later hW)
 have HC4 : Hid (∀ W,Below w0.heap.size w0 W → W.cell? ⟨w.heap.size,0,none⟩ = some (.slice g.ta g.ts.length g.tc)∧W.cell? ⟨w.heap.size,1,none⟩ = some (.slice g.fa g.fs.length g.fc)∧W.cell? ⟨w.heap.size,2,none⟩ = some (.slice g.ma g.ms.length g.mc)∧W.cell? ⟨w.heap.size,3,none⟩ = some (.int .i64 g.en)):=fun W hW => (hgb.later hW).cells
 unfold imC at HW0 HTh
 clear hw0 hb0 hgb hg hi
 unfold imV
 go_enter Tryz.func117,Tryz.ntmps117
 go_wp2_with (rw [← HW0.out])
 go_loopw [5,6] (fun lv z wr => ∃ q : Nat,q ≤ g.fs.length∧z = .int .i64 q∧Hid (OwnI wr w0.heap.size lv (if numB t g.ts.length = true then pkN (fun x => decide (x.ow = t)) 0 (g.fs.take q) else []))∧Hid (Below w0.heap.size w0 wr)) (fun _ z _ => g.fs.length - (intOf z).toNat)
 case atStart => exact ⟨0,Nat.zero_le _,rfl,by show OwnI _ _ _ _; split <;> exact OwnI.nil _ _,Below.refl _ _⟩
 case round =>
  obtain ⟨q,hq,rfl,HO,HB⟩:=hrel
  obtain ⟨c0,c1,c2,c3⟩:=HC4.out wr HB.out
  by_cases hql : q < g.fs.length
  ·have hqi : (q : Int) < (g.fs.length : Int):=by omega
   go_wp2_with fail
   refine Calls.mono (HTh.out wr HB.out) ?_
   rintro e w1 ⟨rfl,hb1⟩
   have HB1 : Hid (Below w0.heap.size w0 w1):=bstep HB.out hb1
   have HO1 : Hid (OwnI w1 w0.heap.size u5 (if numB t g.ts.length = true then pkN (fun x => decide (x.ow = t)) 0 (g.fs.take q) else [])):=OwnI.later HO.out hb1
   clear hb1 c0 c1 c2 c3 HO HB
   cases hn : numB t g.ts.length with
   | false =>
    rw [hn] at HO1
    have HNb : Hid (numB t g.ts.length = false):=hn
    clear hn
    go_wp2_with fail
    go_roundw
    case rel => exact ⟨q + 1,by omega,by go_num,by rw [HNb.out]; exact HO1.out,HB1.out⟩
    case measure => simp [intOf]; omega
   | true =>
    rw [hn,if_pos rfl] at HO1
    have HNb : Hid (numB t g.ts.length = true):=hn
    have HT : Hid (pkN (fun x => decide (x.ow = t)) 0 (g.fs.take (q + 1)) = pkN (fun x => decide (x.ow = t)) 0 (g.fs.take q) ++ (if (fun x => decide (x.ow = t)) g.fs[q] = true then [(q : Int)] else [])):=pkN_take _ _ _ hql
    have hpl:=pkN_len (fun x => decide (x.ow = t)) (g.fs.take q) 0
    rw [List.length_take] at hpl
    obtain ⟨tb,off,hta,h8,h9,hty⟩:=HG.out.fd (by intro e; rw [e] at hql; simp at hql)
    obtain ⟨d1,hd⟩:=hty w1 HB1.out
    obtain ⟨k0,k1,k2,k3,k4,k5,k6⟩:=(hd q hql).cells_F
    unfold maxLen at h9
    clear hd hty hta hn
    by_cases hw : g.fs[q].ow = t
    ·have hwb : (g.fs[q].ow == t) = true:=by simpa using hw
     have HT2 : Hid (pkN (fun x => decide (x.ow = t)) 0 (g.fs.take (q + 1)) = pkN (fun x => decide (x.ow = t)) 0 (g.fs.take q) ++ [(q : Int)]):=by show _ = _; rw [HT.out,if_pos (by simpa using hw)]
     clear HT hw
     generalize g.fs[q] = y at *
     go_wp2_with (at_builtin; go_must (refine wpList_append_int (v:=u5) rfl (.tmp 27) (.tmp 29) rfl w0.heap.size rfl rfl (HO1.out.later (made_below _ _ _)) (one_int w1 q _ rfl) (by omega) (Nat.le_trans HB1.out.size (made_below _ _ _).size) ?_; intro v5 w5 ho5 hg5; have hB5:=(bbox HB1.out _).trans (grown_below11 (HO1.out.later (made_below _ _ _)) hg5 (Nat.le_refl _) (Nat.le_trans HB1.out.size (made_below _ _ _).size))))
     go_roundw
     case rel => exact ⟨q + 1,by omega,by go_num,by rw [HNb.out,if_pos rfl,HT2.out]; exact ho5,hB5⟩
     case measure => simp [intOf]; omega
    ·have hwb : (g.fs[q].ow == t) = false:=by simpa using hw
     have HT2 : Hid (pkN (fun x => decide (x.ow = t)) 0 (g.fs.take (q + 1)) = pkN (fun x => decide (x.ow = t)) 0 (g.fs.take q)):=by show _ = _; rw [HT.out,if_neg (by simpa using hw),List.append_nil]
     clear HT hw
     generalize g.fs[q] = y at *
     go_wp2_with fail
     go_roundw
     case rel => exact ⟨q + 1,by omega,by go_num,by rw [HNb.out,if_pos rfl,HT2.out]; exact HO1.out,HB1.out⟩
     case measure => simp [intOf]; omega
  ·have hqi : ¬ (q : Int) < (g.fs.length : Int):=by omega
   have HE : Hid ((if numB t g.ts.length = true then pkN (fun x => decide (x.ow = t)) 0 (g.fs.take q) else []) = fldN g t):=by show _ = _; rw [List.take_of_length_le (by omega)]; rfl
   go_wp2_with fail
   go_ret
   exact ⟨_,rfl,by rw [← HE.out]; exact HO.out.mono HB0.out.size,bstep HB0.out HB.out⟩

set_option maxHeartbeats 4000000 in
set_option maxRecDepth 100000 in
theorem refMethods_any {g : Img} {t : Int} {w : World} (hg : Im w g) (hi : imB g = true) :
  Calls Tryz.prog 52 #[imV g,.int .i64 t] w fun e w' => ∃ v,e = .returned v∧OwnI w' w.heap.size v (mtdN g t)∧Below w.heap.size w w':=by
 obtain ⟨w0,hw0⟩ : ∃ W,W = w.alloc (.cells (imC g) 26):=⟨_,rfl⟩
 have HW0 : Hid (w0 = _):=hw0
 obtain ⟨hb0,hgb⟩:=GB.made hg hw0
 have HB0 : Hid (Below w.heap.size w w0):=hb0
 have HG : Hid (GB w0 w.heap.size g):=hgb
 have hln:=im_len hi
 have HTh : Hid (∀ W,Below w0.heap.size w0 W → Calls Tryz.prog 59 #[.agg (imC g),.int .i64 t] W fun e w' => e = .returned (.bool (numB t g.ts.length))∧Below W.heap.size W w'):=fun W hW => refThere_any t (hgb.im.later hW)
 have HC4 : Hid (∀ W,Below w0.heap.size w0 W → W.cell? ⟨w.heap.size,0,none⟩ = some (.slice g.ta g.ts.length g.tc)∧W.cell? ⟨w.heap.size,1,none⟩ = some (.slice g.fa g.fs.length g.fc)∧W.cell? ⟨w.heap.size,2,none⟩ = some (.slice g.ma g.ms.length g.mc)∧W.cell? ⟨w.heap.size,3,none⟩ = some (.int .i64 g.en)):=fun W hW => (hgb.later hW).cells
 unfold imC at HW0 HTh
 clear hw0 hb0 hgb hg hi
 unfold imV
 go_enter Tryz.func52,Tryz.ntmps52
 go_wp2_with (rw [← HW0.out])
 go_loopw [5,6] (fun lv z wr => ∃ q : Nat,q ≤ g.ms.length∧z = .int .i64 q∧Hid (OwnI wr w0.heap.size lv (if numB t g.ts.length = true then pkN (fun x => decide (x.ow = t)) 0 (g.ms.take q) else []))∧Hid (Below w0.heap.size w0 wr)) (fun _ z _ => g.ms.length - (intOf z).toNat)
 case atStart => exact ⟨0,Nat.zero_le _,rfl,by show OwnI _ _ _ _; split <;> exact OwnI.nil _ _,Below.refl _ _⟩
 case round =>
  obtain ⟨q,hq,rfl,HO,HB⟩:=hrel
  obtain ⟨c0,c1,c2,c3⟩:=HC4.out wr HB.out
  by_cases hql : q < g.ms.length
  ·have hqi : (q : Int) < (g.ms.length : Int):=by omega
   go_wp2_with fail
   refine Calls.mono (HTh.out wr HB.out) ?_
   rintro e w1 ⟨rfl,hb1⟩
   have HB1 : Hid (Below w0.heap.size w0 w1):=bstep HB.out hb1
   have HO1 : Hid (OwnI w1 w0.heap.size u5 (if numB t g.ts.length = true then pkN (fun x => decide (x.ow = t)) 0 (g.ms.take q) else [])):=OwnI.later HO.out hb1
   clear hb1 c0 c1 c2 c3 HO HB
   cases hn : numB t g.ts.length with
   | false =>
    rw [hn] at HO1
    have HNb : Hid (numB t g.ts.length = false):=hn
    clear hn
    go_wp2_with fail
    go_roundw
    case rel => exact ⟨q + 1,by omega,by go_num,by rw [HNb.out]; exact HO1.out,HB1.out⟩
    case measure => simp [intOf]; omega
   | true =>
    rw [hn,if_pos rfl] at HO1
    have HNb : Hid (numB t g.ts.length = true):=hn
    have HT : Hid (pkN (fun x => decide (x.ow = t)) 0 (g.ms.take (q + 1)) = pkN (fun x => decide (x.ow = t)) 0 (g.ms.take q) ++ (if (fun x => decide (x.ow = t)) g.ms[q] = true then [(q : Int)] else [])):=pkN_take _ _ _ hql
    have hpl:=pkN_len (fun x => decide (x.ow = t)) (g.ms.take q) 0
    rw [List.length_take] at hpl
    obtain ⟨tb,off,hta,h8,h9,hty⟩:=HG.out.md (by intro e; rw [e] at hql; simp at hql)
    obtain ⟨d1,hd⟩:=hty w1 HB1.out
    obtain ⟨k0,k1,k2,k3,k4,k5,k6,k7,k8,k9,k10,k11⟩:=(hd q hql).cells_M
    unfold maxLen at h9
    clear hd hty hta hn
    by_cases hw : g.ms[q].ow = t
    ·have hwb : (g.ms[q].ow == t) = true:=by simpa using hw
     have HT2 : Hid (pkN (fun x => decide (x.ow = t)) 0 (g.ms.take (q + 1)) = pkN (fun x => decide (x.ow = t)) 0 (g.ms.take q) ++ [(q : Int)]):=by show _ = _; rw [HT.out,if_pos (by simpa using hw)]
     clear HT hw
     generalize g.ms[q] = y at *
     go_wp2_with (at_builtin; go_must (refine wpList_append_int (v:=u5) rfl (.tmp 27) (.tmp 29) rfl w0.heap.size rfl rfl (HO1.out.later (made_below _ _ _)) (one_int w1 q _ rfl) (by omega) (Nat.le_trans HB1.out.size (made_below _ _ _).size) ?_; intro v5 w5 ho5 hg5; have hB5:=(bbox HB1.out _).trans (grown_below11 (HO1.out.later (made_below _ _ _)) hg5 (Nat.le_refl _) (Nat.le_trans HB1.out.size (made_below _ _ _).size))))
     go_roundw
     case rel => exact ⟨q + 1,by omega,by go_num,by rw [HNb.out,if_pos rfl,HT2.out]; exact ho5,hB5⟩
     case measure => simp [intOf]; omega
    ·have hwb : (g.ms[q].ow == t) = false:=by simpa using hw
     have HT2 : Hid (pkN (fun x => decide (x.ow = t)) 0 (g.ms.take (q + 1)) = pkN (fun x => decide (x.ow = t)) 0 (g.ms.take q)):=by show _ = _; rw [HT.out,if_neg (by simpa using hw),List.append_nil]
     clear HT hw
     generalize g.ms[q] = y at *
     go_wp2_with fail
     go_roundw
     case rel => exact ⟨q + 1,by omega,by go_num,by rw [HNb.out,if_pos rfl,HT2.out]; exact HO1.out,HB1.out⟩
     case measure => simp [intOf]; omega
  ·have hqi : ¬ (q : Int) < (g.ms.length : Int):=by omega
   have HE : Hid ((if numB t g.ts.length = true then pkN (fun x => decide (x.ow = t)) 0 (g.ms.take q) else []) = mtdN g t):=by show _ = _; rw [List.take_of_length_le (by omega)]; rfl
   go_wp2_with fail
   go_ret
   exact ⟨_,rfl,by rw [← HE.out]; exact HO.out.mono HB0.out.size,bstep HB0.out HB.out⟩
end Go.Proofs.YthpmpdpfnlecmaaGreat

namespace Go.Proofs.YthpmpdpfnlecmaaGreat
set_option linter.unusedVariables false
set_option linter.unusedSimpArgs false
open Go.RowKit
def ownF (t : Int) (x : FD) : Bool:=decide (x.ow = t) && !x.st
def hldL (g : Img) (t : Int) : List Ty:=(g.fs.filter (ownF t)).map (·.t)
def whlB (t : Ty) : Bool:=decide (t.1 ≠ 6) || (t.2.2.2 || decide (0 < t.2.2.1))
def intT : Ty:=(2,0,0,false)
def orI (l : List Ty) : List Ty:=if l = [] then [intT] else l
def oneL (t : Ty) : List Ty:=if t.1 = 1 then [] else [t]
def celK (g : Img) : Nat → Ty → List Ty
 | 0,t => oneL t
 | k + 1,t => if whlB t = true then oneL t else orI ((hldL g t.2.1).flatMap (celK g k))
def dpB (g : Img) : Nat → Ty → Bool
 | 0,t => whlB t
 | k + 1,t => whlB t || (hldL g t.2.1).all (dpB g k)
def celL (g : Img) (t : Ty) : List Ty:=celK g g.ts.length t
def usdB (g : Img) (t : Ty) : Bool:=plainT t && (if t.1 = 5 then decide (kndI g t.2.1 ≠ -1) && decide (kndI g t.2.1 ≠ 1) else if t.1 = 6 then decide (kndI g t.2.1 = 1) else true)
def ownC (g : Img) (u : Int) : List Ty:=(hldL g u).flatMap (celL g)
def objL (g : Img) (t : Int) : List Ty:=(upL g t).reverse.flatMap (ownC g)
def tooB (g : Img) (t : Int) : Bool:=if kndI g t = 1 then decide (8 < (celL g (6,t,0,false)).length) else if kndI g t = 0 then decide (32 < (objL g t).length) else false
def lchI (g : Img) : Int × Int :=
 if welB g = false then (0,17) else
 match g.fs.findIdx? (fun x => !usdB g x.t) with
 | some i => ((i : Int),10)
 | none => match (List.range g.ts.length).findIdx? (fun t : Nat => tooB g (t : Int)) with
  | some t => ((t : Int),20)
  | none => (0,0)
def finB (g : Img) : Bool:=decide ((lchI g).2 = 0)
theorem whl_dp {g : Img} {k : Nat} {t : Ty} (h : whlB t = true) : dpB g k t = true:=by
 cases k with
 | zero => exact h
 | succ k => unfold dpB; rw [h]; rfl
theorem dp_next {g : Img} : ∀ {k : Nat} {t : Ty},dpB g k t = true → dpB g (k + 1) t = true∧celK g (k + 1) t = celK g k t
 | 0,t,h => by
  refine ⟨whl_dp h, ?_⟩
  unfold dpB at h
  show (if whlB t = true then oneL t else _) = oneL t
  rw [if_pos h]
 | k + 1,t,h => by
  cases hw : whlB t with
  | true =>
   refine ⟨whl_dp hw, ?_⟩
   show (if whlB t = true then oneL t else _) = (if whlB t = true then oneL t else _)
   rw [if_pos hw,if_pos hw]
  | false =>
   have h1 : (hldL g t.2.1).all (dpB g k) = true:=by
    unfold dpB at h; rw [hw] at h; simpa using h
   rw [List.all_eq_true] at h1
   refine ⟨?_, ?_⟩
   ·show (whlB t || (hldL g t.2.1).all (dpB g (k + 1))) = true
    rw [hw,Bool.false_or,List.all_eq_true]
    exact fun x hx => (dp_next (h1 x hx)).1
   ·show (if whlB t = true then oneL t else orI ((hldL g t.2.1).flatMap (celK g (k + 1)))) = (if whlB t = true then oneL t else orI ((hldL g t.2.1).flatMap (celK g k)))
    rw [hw,if_neg (by decide),if_neg (by decide)]
    congr 1
    have : ∀ l : List Ty,(∀ x ∈ l,celK g (k + 1) x = celK g k x) → l.flatMap (celK g (k + 1)) = l.flatMap (celK g k):=by
     intro l
     induction l with
     | nil => intro _; rfl
     | cons a r ih =>
      intro hl
      rw [List.flatMap_cons,List.flatMap_cons,hl a (by simp),ih (fun x hx => hl x (List.mem_cons_of_mem _ hx))]
    exact this _ (fun x hx => (dp_next (h1 x hx)).2)

theorem knd_num {g : Img} {t : Int} (h : kndI g t ≠ -1) : numB t g.ts.length = true:=by
 cases hn : numB t g.ts.length with
 | true => rfl
 | false => exact absurd (by unfold kndI; rw [hn]; rfl) h
theorem mem_hld {g : Img} {t : Int} {y : Ty} (h : y ∈ hldL g t) : ∃ (i : Nat) (hi : i < g.fs.length),g.fs[i].t = y∧g.fs[i].ow = t∧g.fs[i].st = false:=by
 unfold hldL at h
 rw [List.mem_map] at h
 obtain ⟨x,hx,rfl⟩:=h
 rw [List.mem_filter] at hx
 obtain ⟨i,hi,rfl⟩:=List.mem_iff_getElem.1 hx.1
 have:=hx.2
 unfold ownF at this
 simp only [Bool.and_eq_true,decide_eq_true_iff,Bool.not_eq_true'] at this
 exact ⟨i,hi,rfl,this.1,this.2⟩
theorem mem_pkN {α : Type} (p : α → Bool) : ∀ (l : List α) (s : Nat) (i : Nat) (h : i < l.length),p l[i] = true → (((s + i : Nat) : Int)) ∈ pkN p (s : Int) l
 | c :: r,s,0,h,hp => by
  unfold pkN
  have : p c = true:=hp
  rw [if_pos this]; simp
 | c :: r,s,i + 1,h,hp => by
  unfold pkN
  have:=mem_pkN p r (s + 1) i (by simpa using h) hp
  rw [List.mem_append]
  refine Or.inr ?_
  rw [show s + (i + 1) = s + 1 + i by omega]
  exact this
theorem usd_val {g : Img} {t : Ty} (hu : usdB g t = true) (hw : whlB t = false) : t.1 = 6∧t.2.2.2 = false∧t.2.2.1 = 0∧kndI g t.2.1 = 1∧numB t.2.1 g.ts.length = true:=by
 unfold whlB at hw
 simp only [Bool.or_eq_false_iff,decide_eq_false_iff_not,ne_eq,Decidable.not_not] at hw
 obtain ⟨h1,h2,h3⟩:=hw
 unfold usdB at hu
 rw [h1,if_neg (by decide),if_pos rfl,Bool.and_eq_true,decide_eq_true_iff] at hu
 have hd : 0 ≤ t.2.2.1:=by
  have:=hu.1
  unfold plainT plainB at this
  rw [decide_eq_true_iff] at this
  exact this.1
 exact ⟨h1,h2,by omega,hu.2,knd_num (by rw [hu.2]; decide)⟩
theorem held_prt {g : Img} {t : Int} {y : Ty} (ht : numB t g.ts.length = true) (hy : y ∈ hldL g t) (hu : usdB g y = true) (hw : whlB y = false) : y.2.1 ∈ prtL g t:=by
 obtain ⟨i,hi,h1,h2,h3⟩:=mem_hld hy
 obtain ⟨v1,v2,v3,v4,v5⟩:=usd_val hu hw
 have hf : fvtI g (i : Int) = y:=by unfold fvtI; rw [Int.toNat_natCast,List.getElem?_eq_getElem hi]; exact h1
 have hs : fstI g (i : Int) = false:=by unfold fstI; rw [Int.toNat_natCast,List.getElem?_eq_getElem hi]; exact h3
 unfold prtL
 rw [List.mem_map]
 refine ⟨(i : Int), ?_,by rw [hf]⟩
 rw [List.mem_filter]
 refine ⟨?_, ?_⟩
 ·unfold fldN
  rw [if_pos ht]
  have:=mem_pkN (fun x : FD => decide (x.ow = t)) g.fs 0 i hi (by simpa using h2)
  simpa using this
 ·unfold prtB
  rw [hf,hs,v1,v3,v4]; rfl

def AllU (g : Img) : Prop := ∀ x ∈ g.fs,usdB g x.t = true
def ValA (g : Img) : Prop := ∀ t,numB t g.ts.length = true → kndI g t = 1 → t ∉ reachL g.ts.length (prtL g) (prtL g t)
theorem AllU.hld {g : Img} (h : AllU g) {t : Int} {y : Ty} (hy : y ∈ hldL g t) : usdB g y = true:=by
 obtain ⟨i,hi,h1,_⟩:=mem_hld hy
 rw [← h1]; exact h _ (List.getElem_mem hi)
theorem ValA.of {g : Img} (h : welB g = true) : ValA g:=by
 intro t ht hk hm
 have:=((wel_all h).2 t ht).2.2.2.2
 unfold szdB at this
 rw [hk,if_neg (by decide),if_neg (by decide),if_pos rfl] at this
 rw [List.contains_iff_mem.2 hm] at this
 cases this
theorem dp_path {g : Img} (U : AllU g) (V : ValA g) : ∀ (k : Nat) (P : List Int) (t : Ty),usdB g t = true → whlB t = false → P.Nodup → (∀ p ∈ P,numB p g.ts.length = true∧Rch g.ts.length (prtL g) (prtL g p) t.2.1) → dpB g k t = false → P.length + k + 1 ≤ g.ts.length
 | k,P,t,hu,hw,hd,hp,hf => by
  obtain ⟨v1,v2,v3,v4,v5⟩:=usd_val hu hw
  have hn : t.2.1 ∉ P:=fun hm => V _ v5 v4 (reachL_iff.2 (hp _ hm).2)
  have hd2 : (t.2.1 :: P).Nodup:=List.nodup_cons.2 ⟨hn,hd⟩
  have hnum : ∀ x ∈ t.2.1 :: P,numB x g.ts.length = true:=by
   intro x hx
   rcases List.mem_cons.1 hx with rfl | hx
   ·exact v5
   ·exact (hp x hx).1
  cases k with
  | zero =>
   have:=nodup_len g.ts.length _ hd2 (fun x hx => numB_iff.1 (hnum x hx))
   simpa using this
  | succ k =>
   have hf2 : (hldL g t.2.1).all (dpB g k) = false:=by
    unfold dpB at hf; rw [hw] at hf; simpa using hf
   rw [List.all_eq_false] at hf2
   obtain ⟨y,hy,hyd⟩:=hf2
   have hyd2 : dpB g k y = false:=by simpa using hyd
   have hyw : whlB y = false:=by
    cases h : whlB y with
    | false => rfl
    | true => rw [whl_dp h] at hyd2; cases hyd2
   have hyu:=U.hld hy
   have hyp:=held_prt v5 hy hyu hyw
   have hyn:=(usd_val hyu hyw).2.2.2.2
   have hstep : Rch g.ts.length (prtL g) (prtL g t.2.1) y.2.1:=fun S hS _ => hS _ hyp hyn
   have:=dp_path U V k (t.2.1 :: P) y hyu hyw hd2 (fun p hp2 => ⟨hnum p hp2,by
    rcases List.mem_cons.1 hp2 with rfl | hp3
    ·exact hstep
    ·exact (hp p hp3).2.trans hstep⟩) hyd2
   rw [List.length_cons] at this
   omega
theorem dp_all {g : Img} (U : AllU g) (V : ValA g) {t : Ty} (hu : usdB g t = true) : dpB g g.ts.length t = true:=by
 cases hw : whlB t with
 | true => exact whl_dp hw
 | false =>
  cases hd : dpB g g.ts.length t with
  | true => rfl
  | false =>
   have:=dp_path U V g.ts.length [] t hu hw (by simp) (fun p hp => absurd hp (by simp)) hd
   simp at this
   omega
theorem cel_whole {g : Img} {t : Ty} (hw : whlB t = true) : celL g t = oneL t:=by
 unfold celL
 cases g.ts.length with
 | zero => rfl
 | succ k => show (if whlB t = true then oneL t else _) = _; rw [if_pos hw]
theorem flatMap_eq {α β : Type} {f h : α → List β} : ∀ {l : List α},(∀ x ∈ l,f x = h x) → l.flatMap f = l.flatMap h
 | [],_ => rfl
 | a :: r,hl => by rw [List.flatMap_cons,List.flatMap_cons,hl a (by simp),flatMap_eq (fun x hx => hl x (List.mem_cons_of_mem _ hx))]
theorem cel_value {g : Img} (U : AllU g) (V : ValA g) {t : Ty} (hu : usdB g t = true) (hw : whlB t = false) : celL g t = orI (ownC g t.2.1):=by
 have hd:=dp_all U V hu
 have hn:=(usd_val hu hw).2.2.2.2
 have hpos : 0 < g.ts.length:=by rw [numB_iff] at hn; omega
 obtain ⟨m,hm⟩ : ∃ m,g.ts.length = m + 1:=⟨g.ts.length - 1,by omega⟩
 unfold ownC
 unfold celL
 rw [hm] at hd ⊢
 have h1 : (hldL g t.2.1).all (dpB g m) = true:=by
  unfold dpB at hd; rw [hw] at hd; simpa using hd
 rw [List.all_eq_true] at h1
 show (if whlB t = true then oneL t else orI ((hldL g t.2.1).flatMap (celK g m))) = _
 rw [hw,if_neg (by decide)]
 congr 1
 exact flatMap_eq (fun x hx => ((dp_next (h1 x hx)).2).symm)

def Cut (l c : List Ty) : Prop:=l = c ∨ (32 < l.length∧32 < c.length)
theorem Cut.le {l c : List Ty} (h : Cut l c) (hc : c.length ≤ 32) : l = c:=by
 rcases h with h | ⟨_,h⟩
 ·exact h
 ·omega
theorem Cut.lt8 {l c : List Ty} (h : Cut l c) : (8 < l.length) ↔ (8 < c.length):=by
 rcases h with rfl | ⟨h1,h2⟩
 ·exact Iff.rfl
 ·omega
theorem Cut.lt32 {l c : List Ty} (h : Cut l c) : (32 < l.length) ↔ (32 < c.length):=by
 rcases h with rfl | ⟨h1,h2⟩
 ·exact Iff.rfl
 ·omega
theorem Cut.app {l c a b : List Ty} (h : Cut l c) (k : Cut a b) : Cut (l ++ a) (c ++ b):=by
 unfold Cut at *
 simp only [List.length_append]
 rcases h with rfl | ⟨h1,h2⟩
 ·rcases k with rfl | ⟨k1,k2⟩
  ·exact Or.inl rfl
  ·exact Or.inr ⟨by omega,by omega⟩
 ·exact Or.inr ⟨by omega,by omega⟩
theorem Cut.stop {l c : List Ty} (h : Cut l c) (hl : 32 < l.length) (b : List Ty) : Cut l (c ++ b):=by
 unfold Cut at *
 simp only [List.length_append]
 rcases h with rfl | ⟨h1,h2⟩
 ·exact Or.inr ⟨by omega,by omega⟩
 ·exact Or.inr ⟨by omega,by omega⟩

structure Fin_ (g : Img) : Prop where
 wel : welB g = true
 used : AllU g
 val : ∀ t,kndI g t = 1 → (celL g (6,t,0,false)).length ≤ 8
 cls : ∀ t,kndI g t = 0 → (objL g t).length ≤ 32
theorem findIdx_none {α : Type} {p : α → Bool} {l : List α} : l.findIdx? p = none ↔ ∀ x ∈ l,p x = false:=List.findIdx?_eq_none_iff
theorem findIdx_at {α : Type} {p : α → Bool} {l : List α} {q : Nat} (hq : q < l.length) (h : ∀ x ∈ l.take q,p x = false) (hp : p l[q] = true) : l.findIdx? p = some q:=by
 rw [List.findIdx?_eq_some_iff_getElem]
 refine ⟨hq,hp,fun j hj => ?_⟩
 have:=h l[j] (by rw [List.mem_take_iff_getElem]; exact ⟨j,by omega,rfl⟩)
 rw [this]; decide
theorem Fin_.of {g : Img} (h : finB g = true) : Fin_ g:=by
 unfold finB lchI at h
 rw [decide_eq_true_iff] at h
 cases hw : welB g with
 | false => rw [hw,if_pos rfl] at h; simp at h
 | true =>
  rw [hw,if_neg (by decide)] at h
  cases h1 : g.fs.findIdx? (fun x => !usdB g x.t) with
  | some i => rw [h1] at h; simp at h
  | none =>
   rw [h1] at h
   cases h2 : (List.range g.ts.length).findIdx? (fun t : Nat => tooB g (t : Int)) with
   | some i => rw [h2] at h; simp at h
   | none =>
    rw [findIdx_none] at h1 h2
    have hT : ∀ t : Int,kndI g t ≠ -1 → tooB g t = false:=fun t ht => by
     have hn:=numB_iff.1 (knd_num ht)
     have:=h2 t.toNat (by rw [List.mem_range]; omega)
     rwa [show ((t.toNat : Nat) : Int) = t by omega] at this
    refine ⟨hw,fun x hx => by simpa using h1 x hx,fun t ht => ?_,fun t ht => ?_⟩
    ·have:=hT t (by rw [ht]; decide)
     unfold tooB at this
     rw [ht,if_pos rfl,decide_eq_false_iff_not] at this
     omega
    ·have:=hT t (by rw [ht]; decide)
     unfold tooB at this
     rw [ht,if_neg (by decide),if_pos rfl,decide_eq_false_iff_not] at this
     omega
end Go.Proofs.YthpmpdpfnlecmaaGreat
