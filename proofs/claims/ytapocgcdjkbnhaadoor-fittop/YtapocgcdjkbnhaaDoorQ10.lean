/- Texts joined: RefFlag11, CheckF9, Know10, Form10, RefSig11. -/
import Derived.Test.YtapocgcdjkbnhaaDoorQ08
import Derived.Test.YtapocgcdjkbnhaaDoorQ05
import Derived.Test.YtapocgcdjkbnhaaDoorQ06
import Derived.Test.YtapocgcdjkbnhaaDoorRows
import Derived.Test.YtapocgcdjkbnhaaDoorQ01
namespace Go.Proofs.YtapocgcdjkbnhaaDoor
set_option linter.unusedVariables false
set_option linter.unusedSimpArgs false
open Go.RowKit
attribute [local go_sem ↓] Go.wp_at_zero Go.wp_at_succ
theorem pkN_append {α : Type} (p : α → Bool) : ∀ (a b : List α) (i : Int),pkN p i (a ++ b) = pkN p i a ++ pkN p (i + (a.length : Int)) b
 | [],b,i => by simp [pkN]
 | c :: r,b,i => by
  simp only [List.cons_append,pkN,pkN_append p r b (i + 1),List.append_assoc,List.length_cons]
  rw [show i + 1 + (r.length : Int) = i + ((r.length + 1 : Nat) : Int) by omega]
theorem pkN_take {α : Type} (p : α → Bool) (l : List α) (q : Nat) (h : q < l.length) : pkN p 0 (l.take (q + 1)) = pkN p 0 (l.take q) ++ (if p l[q] = true then [(q : Int)] else []):=by
 rw [List.take_succ_eq_append_getElem h,pkN_append,List.length_take,Nat.min_eq_left (by omega)]
 simp [pkN]
theorem pkN_len {α : Type} (p : α → Bool) : ∀ (l : List α) (i : Int),(pkN p i l).length ≤ l.length
 | [],_ => by simp [pkN]
 | c :: r,i => by
  have:=pkN_len p r (i + 1)
  simp only [pkN,List.length_append,List.length_cons]
  split <;> simp <;> omega
theorem pkN_num {α : Type} (p : α → Bool) : ∀ (l : List α) (i : Nat),∀ x ∈ pkN p (i : Int) l,∃ k,x = ((i + k : Nat) : Int)∧∃ h : k < l.length,p l[k] = true
 | [],_,x,h => by simp [pkN] at h
 | c :: r,i,x,h => by
  simp only [pkN,List.mem_append] at h
  rcases h with h | h
  ·split at h
   ·rename_i hc
    simp at h
    exact ⟨0,by rw [h]; simp,by simp,by simpa using hc⟩
   ·simp at h
  ·rw [show ((i : Int) + 1) = ((i + 1 : Nat) : Int) by omega] at h
   obtain ⟨k,rfl,hk,hp⟩:=pkN_num p r (i + 1) x h
   exact ⟨k + 1,by congr 1; omega,by simpa using hk,by simpa using hp⟩
theorem fldN_num {g : Img} {t x : Int} (h : x ∈ fldN g t) : ∃ k : Nat,x = (k : Int)∧k < g.fs.length:=by
 unfold fldN at h
 split at h
 ·obtain ⟨k,rfl,hk,_⟩:=pkN_num _ _ 0 x h
  exact ⟨k,by simp,hk⟩
 ·simp at h
theorem mtdN_num {g : Img} {t x : Int} (h : x ∈ mtdN g t) : ∃ k : Nat,x = (k : Int)∧k < g.ms.length:=by
 unfold mtdN at h
 split at h
 ·obtain ⟨k,rfl,hk,_⟩:=pkN_num _ _ 0 x h
  exact ⟨k,by simp,hk⟩
 ·simp at h
theorem fldN_len (g : Img) (t : Int) : (fldN g t).length ≤ g.fs.length:=by
 unfold fldN; split
 ·exact pkN_len _ _ _
 ·simp
theorem mtdN_len (g : Img) (t : Int) : (mtdN g t).length ≤ g.ms.length:=by
 unfold mtdN; split
 ·exact pkN_len _ _ _
 ·simp

set_option maxHeartbeats 8000000 in
theorem refFlagged_any {g : Img} {q : Nat} {w : World} (hg : Im w g) (hi : imB g = true) (hq : q < g.ts.length) :
  Calls Tryd.prog 23 #[imV g,.int .i64 q] w fun e w' => e = .returned (.bool (flgF g.ts[q].fl g.ts[q].ex))∧Below w.heap.size w w':=by
 obtain ⟨w0,hw0⟩ : ∃ W,W = w.alloc (.cells (imC g) 26):=⟨_,rfl⟩
 have HW0 : Hid (w0 = _):=hw0
 obtain ⟨hb0,hgb⟩:=GB.made hg hw0
 have HB0 : Hid (Below w.heap.size w w0):=hb0
 have hfq:=FlOk.of hi _ (List.getElem_mem hq)
 have HKd : Hid (Calls Tryd.prog 14 #[.agg (imC g),.int .i64 q] w0 fun e w' => e = .returned (.int .i64 (kindF g.ts[q].fl))∧Below w0.heap.size w0 w'):=by
  have:=refKind_any (q : Int) hgb.im (FlOk.of hi)
  rwa [knd_at hq] at this
 obtain ⟨tb,off,hta,h8,h9,hty⟩:=hgb.ty (by intro e; rw [e] at hq; simp at hq)
 obtain ⟨c0,hd⟩:=hty w0 (Below.refl _ _)
 obtain ⟨k0,k1,k2,k3⟩:=hd q hq
 obtain ⟨_,c1,c2,c3⟩:=hgb.cells
 have HBt : Hid (∀ (k : Nat) (_ : 1 ≤ k∧k ≤ 16) W,Calls Tryd.prog 21 #[.int .i64 g.ts[q].fl,.int .i64 (k : Int)] W fun e w' => e = .returned (.bool (bitB g.ts[q].fl k))∧w' = W):=fun k hk W => refBit_any hfq hk W
 have hqi : (q : Int) < (g.ts.length : Int):=by omega
 unfold imC at HW0 HKd
 unfold maxLen at h9
 rw [hta] at HKd
 clear hw0 hb0 hgb hg hi hfq hty hd
 have HTA : Hid (g.ta = _):=hta
 clear hta
 generalize g.ts[q] = x at *
 obtain ⟨f,hf⟩ : ∃ f,f = x.fl:=⟨_,rfl⟩
 rw [← hf] at HKd HBt k1
 rw [← hf]
 clear hf
 unfold imV
 go_enter Tryd.func23,Tryd.ntmps23
 go_wp2_with (rw [← HW0.out])
 refine Calls.mono HKd.out ?_
 rintro e w1 ⟨rfl,hb1⟩
 have HB1 : Hid (Below w.heap.size w w1):=bstep HB0.out hb1
 clear hb1 c0 c1 c2 c3 k0 k1 k2 k3 HKd
 by_cases h2 : kindF f = 2
 ·have HR : Hid (flgF f x.ex = (decide (x.ex = -1) && (bitB f 4 && !bitB f 1 && !bitB f 8 && !bitB f 16))):=by show _ = _; unfold flgF; rw [if_pos h2]
  rw [h2]
  clear h2
  by_cases he : x.ex = -1
  ·have he' : (x.ex == -1) = true:=by simpa using he
   have hde : decide (x.ex = -1) = true:=decide_eq_true he
   clear he
   go_wp2_with fail
   refine (HBt.out 4 (by omega) _).mono ?_
   rintro e wz ⟨rfl,hz⟩
   subst wz
   cases hb4 : bitB f 4 with
   | true =>
    go_wp2_with fail
    refine (HBt.out 1 (by omega) _).mono ?_
    rintro e wz ⟨rfl,hz⟩
    subst wz
    cases hb1 : bitB f 1 with
    | true =>
     go_wp2_with fail
     go_ret
     exact ⟨ret_bool (by rw [HR.out]; simp [hde,hb4,hb1]),HB1.out⟩
    | false =>
     go_wp2_with fail
     refine (HBt.out 8 (by omega) _).mono ?_
     rintro e wz ⟨rfl,hz⟩
     subst wz
     cases hb8 : bitB f 8 with
     | true =>
      go_wp2_with fail
      go_ret
      exact ⟨ret_bool (by rw [HR.out]; simp [hde,hb4,hb1,hb8]),HB1.out⟩
     | false =>
      go_wp2_with fail
      refine (HBt.out 16 (by omega) _).mono ?_
      rintro e wz ⟨rfl,hz⟩
      subst wz
      cases hb16 : bitB f 16 with
      | true =>
       go_wp2_with fail
       go_ret
       exact ⟨ret_bool (by rw [HR.out]; simp [hde,hb4,hb1,hb8,hb16]),HB1.out⟩
      | false =>
       go_wp2_with fail
       go_ret
       exact ⟨ret_bool (by rw [HR.out]; simp [hde,hb4,hb1,hb8,hb16]),HB1.out⟩
   | false =>
    go_wp2_with fail
    go_ret
    exact ⟨ret_bool (by rw [HR.out]; simp [hde,hb4]),HB1.out⟩
  ·have he' : (x.ex == -1) = false:=by simpa using he
   have hde : decide (x.ex = -1) = false:=decide_eq_false he
   clear he
   go_wp2_with fail
   go_ret
   exact ⟨ret_bool (by rw [HR.out]; simp [hde]),HB1.out⟩
 ·by_cases h1 : kindF f = 1
  ·have HR : Hid (flgF f x.ex = (decide (x.ex = -1) && (bitB f 8 && !bitB f 4 && !bitB f 16))):=by show _ = _; unfold flgF; rw [if_neg h2,if_pos h1]
   rw [h1]
   clear h1 h2
   by_cases he : x.ex = -1
   ·have he' : (x.ex == -1) = true:=by simpa using he
    have hde : decide (x.ex = -1) = true:=decide_eq_true he
    clear he
    go_wp2_with fail
    refine (HBt.out 8 (by omega) _).mono ?_
    rintro e wz ⟨rfl,hz⟩
    subst wz
    cases hb8 : bitB f 8 with
    | true =>
     go_wp2_with fail
     refine (HBt.out 4 (by omega) _).mono ?_
     rintro e wz ⟨rfl,hz⟩
     subst wz
     cases hb4 : bitB f 4 with
     | true =>
      go_wp2_with fail
      go_ret
      exact ⟨ret_bool (by rw [HR.out]; simp [hde,hb8,hb4]),HB1.out⟩
     | false =>
      go_wp2_with fail
      refine (HBt.out 16 (by omega) _).mono ?_
      rintro e wz ⟨rfl,hz⟩
      subst wz
      cases hb16 : bitB f 16 with
      | true =>
       go_wp2_with fail
       go_ret
       exact ⟨ret_bool (by rw [HR.out]; simp [hde,hb8,hb4,hb16]),HB1.out⟩
      | false =>
       go_wp2_with fail
       go_ret
       exact ⟨ret_bool (by rw [HR.out]; simp [hde,hb8,hb4,hb16]),HB1.out⟩
    | false =>
     go_wp2_with fail
     go_ret
     exact ⟨ret_bool (by rw [HR.out]; simp [hde,hb8]),HB1.out⟩
   ·have he' : (x.ex == -1) = false:=by simpa using he
    have hde : decide (x.ex = -1) = false:=decide_eq_false he
    clear he
    go_wp2_with fail
    go_ret
    exact ⟨ret_bool (by rw [HR.out]; simp [hde]),HB1.out⟩
  ·by_cases h3 : kindF f = 3
   ·have HR : Hid (flgF f x.ex = (decide (x.ex = -1) && (bitB f 8 && !bitB f 4))):=by show _ = _; unfold flgF; rw [if_neg h2,if_neg h1,if_pos h3]
    rw [h3]
    clear h1 h2 h3
    by_cases he : x.ex = -1
    ·have he' : (x.ex == -1) = true:=by simpa using he
     have hde : decide (x.ex = -1) = true:=decide_eq_true he
     clear he
     go_wp2_with fail
     refine (HBt.out 8 (by omega) _).mono ?_
     rintro e wz ⟨rfl,hz⟩
     subst wz
     cases hb8 : bitB f 8 with
     | true =>
      go_wp2_with fail
      refine (HBt.out 4 (by omega) _).mono ?_
      rintro e wz ⟨rfl,hz⟩
      subst wz
      cases hb4 : bitB f 4 with
      | true =>
       go_wp2_with fail
       go_ret
       exact ⟨ret_bool (by rw [HR.out]; simp [hde,hb8,hb4]),HB1.out⟩
      | false =>
       go_wp2_with fail
       go_ret
       exact ⟨ret_bool (by rw [HR.out]; simp [hde,hb8,hb4]),HB1.out⟩
     | false =>
      go_wp2_with fail
      go_ret
      exact ⟨ret_bool (by rw [HR.out]; simp [hde,hb8]),HB1.out⟩
    ·have he' : (x.ex == -1) = false:=by simpa using he
     have hde : decide (x.ex = -1) = false:=decide_eq_false he
     clear he
     go_wp2_with fail
     go_ret
     exact ⟨ret_bool (by rw [HR.out]; simp [hde]),HB1.out⟩
   ·have HR : Hid (flgF f x.ex = true):=by show _ = _; unfold flgF; rw [if_neg h2,if_neg h1,if_neg h3]
    have h0 : kindF f = 0:=by unfold kindF at h1 h2 h3 ⊢; split <;> simp_all
    rw [h0]
    clear h0 h1 h2 h3
    go_wp2_with fail
    go_ret
    exact ⟨ret_bool HR.out.symm,HB1.out⟩

set_option maxHeartbeats 4000000 in
set_option maxRecDepth 100000 in
theorem refFields_any {g : Img} {t : Int} {w : World} (hg : Im w g) (hi : imB g = true) :
  Calls Tryd.prog 38 #[imV g,.int .i64 t] w fun e w' => ∃ v,e = .returned v∧OwnI w' w.heap.size v (fldN g t)∧Below w.heap.size w w':=by
 obtain ⟨w0,hw0⟩ : ∃ W,W = w.alloc (.cells (imC g) 26):=⟨_,rfl⟩
 have HW0 : Hid (w0 = _):=hw0
 obtain ⟨hb0,hgb⟩:=GB.made hg hw0
 have HB0 : Hid (Below w.heap.size w w0):=hb0
 have HG : Hid (GB w0 w.heap.size g):=hgb
 have hln:=im_len hi
 have HTh : Hid (∀ W,Below w0.heap.size w0 W → Calls Tryd.prog 9 #[.agg (imC g),.int .i64 t] W fun e w' => e = .returned (.bool (numB t g.ts.length))∧Below W.heap.size W w'):=fun W hW => refThere_any t (hgb.im.later hW)
 have HC4 : Hid (∀ W,Below w0.heap.size w0 W → W.cell? ⟨w.heap.size,0,none⟩ = some (.slice g.ta g.ts.length g.tc)∧W.cell? ⟨w.heap.size,1,none⟩ = some (.slice g.fa g.fs.length g.fc)∧W.cell? ⟨w.heap.size,2,none⟩ = some (.slice g.ma g.ms.length g.mc)∧W.cell? ⟨w.heap.size,3,none⟩ = some (.int .i64 g.en)):=fun W hW => (hgb.later hW).cells
 unfold imC at HW0 HTh
 clear hw0 hb0 hgb hg hi
 unfold imV
 go_enter Tryd.func38,Tryd.ntmps38
 go_wp2_with (rw [← HW0.out])
 go_loopw [5,6] (fun lv z wr => ∃ q : Nat,q ≤ g.fs.length∧z = .int .i64 q∧Hid (OwnI wr w0.heap.size lv (if numB t g.ts.length = true then pkN (fun x => decide (x.ow = t)) 0 (g.fs.take q) else []))∧Hid (Below w0.heap.size w0 wr)) (fun _ z _ => g.fs.length - (intOf z).toNat)
 case atStart => exact ⟨0,Nat.zero_le _,rfl,by show OwnI _ _ _ _; split <;> exact OwnI.nil _ _,Below.refl _ _⟩
 case round =>
  obtain ⟨q,hq,rfl,HO,HB⟩:=hrel
  obtain ⟨c0,c1,c2,c3⟩:=HC4.out wr HB.out
  by_cases hql : q < g.fs.length
  ·have hqi : (q : Int) < (g.fs.length : Int):=by omega
   go_wp2_with fail
   refine Calls.mono (HTh.out wr HB.out) ?_
   rintro e w1 ⟨rfl,hb1⟩
   have HB1 : Hid (Below w0.heap.size w0 w1):=bstep HB.out hb1
   have HO1 : Hid (OwnI w1 w0.heap.size u5 (if numB t g.ts.length = true then pkN (fun x => decide (x.ow = t)) 0 (g.fs.take q) else [])):=OwnI.later HO.out hb1
   clear hb1 c0 c1 c2 c3 HO HB
   cases hn : numB t g.ts.length with
   | false =>
    rw [hn] at HO1
    have HNb : Hid (numB t g.ts.length = false):=hn
    clear hn
    go_wp2_with fail
    go_roundw
    case rel => exact ⟨q + 1,by omega,by go_num,by rw [HNb.out]; exact HO1.out,HB1.out⟩
    case measure => simp [intOf]; omega
   | true =>
    rw [hn,if_pos rfl] at HO1
    have HNb : Hid (numB t g.ts.length = true):=hn
    have HT : Hid (pkN (fun x => decide (x.ow = t)) 0 (g.fs.take (q + 1)) = pkN (fun x => decide (x.ow = t)) 0 (g.fs.take q) ++ (if (fun x => decide (x.ow = t)) g.fs[q] = true then [(q : Int)] else [])):=pkN_take _ _ _ hql
    have hpl:=pkN_len (fun x => decide (x.ow = t)) (g.fs.take q) 0
    rw [List.length_take] at hpl
    obtain ⟨tb,off,hta,h8,h9,hty⟩:=HG.out.fd (by intro e; rw [e] at hql; simp at hql)
    obtain ⟨d1,hd⟩:=hty w1 HB1.out
    obtain ⟨k0,k1,k2,k3,k4,k5,k6⟩:=(hd q hql).cells_F
    unfold maxLen at h9
    clear hd hty hta hn
    by_cases hw : g.fs[q].ow = t
    ·have hwb : (g.fs[q].ow == t) = true:=by simpa using hw
     have HT2 : Hid (pkN (fun x => decide (x.ow = t)) 0 (g.fs.take (q + 1)) = pkN (fun x => decide (x.ow = t)) 0 (g.fs.take q) ++ [(q : Int)]):=by show _ = _; rw [HT.out,if_pos (by simpa using hw)]
     clear HT hw
     generalize g.fs[q] = y at *
     go_wp2_with (at_builtin; go_must (refine wpList_append_int (v:=u5) rfl (.tmp 27) (.tmp 29) rfl w0.heap.size rfl rfl (HO1.out.later (made_below _ _ _)) (one_int w1 q _ rfl) (by omega) (Nat.le_trans HB1.out.size (made_below _ _ _).size) ?_; intro v5 w5 ho5 hg5; have hB5:=(bbox HB1.out _).trans (grown_below11 (HO1.out.later (made_below _ _ _)) hg5 (Nat.le_refl _) (Nat.le_trans HB1.out.size (made_below _ _ _).size))))
     go_roundw
     case rel => exact ⟨q + 1,by omega,by go_num,by rw [HNb.out,if_pos rfl,HT2.out]; exact ho5,hB5⟩
     case measure => simp [intOf]; omega
    ·have hwb : (g.fs[q].ow == t) = false:=by simpa using hw
     have HT2 : Hid (pkN (fun x => decide (x.ow = t)) 0 (g.fs.take (q + 1)) = pkN (fun x => decide (x.ow = t)) 0 (g.fs.take q)):=by show _ = _; rw [HT.out,if_neg (by simpa using hw),List.append_nil]
     clear HT hw
     generalize g.fs[q] = y at *
     go_wp2_with fail
     go_roundw
     case rel => exact ⟨q + 1,by omega,by go_num,by rw [HNb.out,if_pos rfl,HT2.out]; exact HO1.out,HB1.out⟩
     case measure => simp [intOf]; omega
  ·have hqi : ¬ (q : Int) < (g.fs.length : Int):=by omega
   have HE : Hid ((if numB t g.ts.length = true then pkN (fun x => decide (x.ow = t)) 0 (g.fs.take q) else []) = fldN g t):=by show _ = _; rw [List.take_of_length_le (by omega)]; rfl
   go_wp2_with fail
   go_ret
   exact ⟨_,rfl,by rw [← HE.out]; exact HO.out.mono HB0.out.size,bstep HB0.out HB.out⟩

set_option maxHeartbeats 4000000 in
set_option maxRecDepth 100000 in
theorem refMethods_any {g : Img} {t : Int} {w : World} (hg : Im w g) (hi : imB g = true) :
  Calls Tryd.prog 39 #[imV g,.int .i64 t] w fun e w' => ∃ v,e = .returned v∧OwnI w' w.heap.size v (mtdN g t)∧Below w.heap.size w w':=by
 obtain ⟨w0,hw0⟩ : ∃ W,W = w.alloc (.cells (imC g) 26):=⟨_,rfl⟩
 have HW0 : Hid (w0 = _):=hw0
 obtain ⟨hb0,hgb⟩:=GB.made hg hw0
 have HB0 : Hid (Below w.heap.size w w0):=hb0
 have HG : Hid (GB w0 w.heap.size g):=hgb
 have hln:=im_len hi
 have HTh : Hid (∀ W,Below w0.heap.size w0 W → Calls Tryd.prog 9 #[.agg (imC g),.int .i64 t] W fun e w' => e = .returned (.bool (numB t g.ts.length))∧Below W.heap.size W w'):=fun W hW => refThere_any t (hgb.im.later hW)
 have HC4 : Hid (∀ W,Below w0.heap.size w0 W → W.cell? ⟨w.heap.size,0,none⟩ = some (.slice g.ta g.ts.length g.tc)∧W.cell? ⟨w.heap.size,1,none⟩ = some (.slice g.fa g.fs.length g.fc)∧W.cell? ⟨w.heap.size,2,none⟩ = some (.slice g.ma g.ms.length g.mc)∧W.cell? ⟨w.heap.size,3,none⟩ = some (.int .i64 g.en)):=fun W hW => (hgb.later hW).cells
 unfold imC at HW0 HTh
 clear hw0 hb0 hgb hg hi
 unfold imV
 go_enter Tryd.func39,Tryd.ntmps39
 go_wp2_with (rw [← HW0.out])
 go_loopw [5,6] (fun lv z wr => ∃ q : Nat,q ≤ g.ms.length∧z = .int .i64 q∧Hid (OwnI wr w0.heap.size lv (if numB t g.ts.length = true then pkN (fun x => decide (x.ow = t)) 0 (g.ms.take q) else []))∧Hid (Below w0.heap.size w0 wr)) (fun _ z _ => g.ms.length - (intOf z).toNat)
 case atStart => exact ⟨0,Nat.zero_le _,rfl,by show OwnI _ _ _ _; split <;> exact OwnI.nil _ _,Below.refl _ _⟩
 case round =>
  obtain ⟨q,hq,rfl,HO,HB⟩:=hrel
  obtain ⟨c0,c1,c2,c3⟩:=HC4.out wr HB.out
  by_cases hql : q < g.ms.length
  ·have hqi : (q : Int) < (g.ms.length : Int):=by omega
   go_wp2_with fail
   refine Calls.mono (HTh.out wr HB.out) ?_
   rintro e w1 ⟨rfl,hb1⟩
   have HB1 : Hid (Below w0.heap.size w0 w1):=bstep HB.out hb1
   have HO1 : Hid (OwnI w1 w0.heap.size u5 (if numB t g.ts.length = true then pkN (fun x => decide (x.ow = t)) 0 (g.ms.take q) else [])):=OwnI.later HO.out hb1
   clear hb1 c0 c1 c2 c3 HO HB
   cases hn : numB t g.ts.length with
   | false =>
    rw [hn] at HO1
    have HNb : Hid (numB t g.ts.length = false):=hn
    clear hn
    go_wp2_with fail
    go_roundw
    case rel => exact ⟨q + 1,by omega,by go_num,by rw [HNb.out]; exact HO1.out,HB1.out⟩
    case measure => simp [intOf]; omega
   | true =>
    rw [hn,if_pos rfl] at HO1
    have HNb : Hid (numB t g.ts.length = true):=hn
    have HT : Hid (pkN (fun x => decide (x.ow = t)) 0 (g.ms.take (q + 1)) = pkN (fun x => decide (x.ow = t)) 0 (g.ms.take q) ++ (if (fun x => decide (x.ow = t)) g.ms[q] = true then [(q : Int)] else [])):=pkN_take _ _ _ hql
    have hpl:=pkN_len (fun x => decide (x.ow = t)) (g.ms.take q) 0
    rw [List.length_take] at hpl
    obtain ⟨tb,off,hta,h8,h9,hty⟩:=HG.out.md (by intro e; rw [e] at hql; simp at hql)
    obtain ⟨d1,hd⟩:=hty w1 HB1.out
    obtain ⟨k0,k1,k2,k3,k4,k5,k6,k7,k8,k9,k10,k11⟩:=(hd q hql).cells_M
    unfold maxLen at h9
    clear hd hty hta hn
    by_cases hw : g.ms[q].ow = t
    ·have hwb : (g.ms[q].ow == t) = true:=by simpa using hw
     have HT2 : Hid (pkN (fun x => decide (x.ow = t)) 0 (g.ms.take (q + 1)) = pkN (fun x => decide (x.ow = t)) 0 (g.ms.take q) ++ [(q : Int)]):=by show _ = _; rw [HT.out,if_pos (by simpa using hw)]
     clear HT hw
     generalize g.ms[q] = y at *
     go_wp2_with (at_builtin; go_must (refine wpList_append_int (v:=u5) rfl (.tmp 27) (.tmp 29) rfl w0.heap.size rfl rfl (HO1.out.later (made_below _ _ _)) (one_int w1 q _ rfl) (by omega) (Nat.le_trans HB1.out.size (made_below _ _ _).size) ?_; intro v5 w5 ho5 hg5; have hB5:=(bbox HB1.out _).trans (grown_below11 (HO1.out.later (made_below _ _ _)) hg5 (Nat.le_refl _) (Nat.le_trans HB1.out.size (made_below _ _ _).size))))
     go_roundw
     case rel => exact ⟨q + 1,by omega,by go_num,by rw [HNb.out,if_pos rfl,HT2.out]; exact ho5,hB5⟩
     case measure => simp [intOf]; omega
    ·have hwb : (g.ms[q].ow == t) = false:=by simpa using hw
     have HT2 : Hid (pkN (fun x => decide (x.ow = t)) 0 (g.ms.take (q + 1)) = pkN (fun x => decide (x.ow = t)) 0 (g.ms.take q)):=by show _ = _; rw [HT.out,if_neg (by simpa using hw),List.append_nil]
     clear HT hw
     generalize g.ms[q] = y at *
     go_wp2_with fail
     go_roundw
     case rel => exact ⟨q + 1,by omega,by go_num,by rw [HNb.out,if_pos rfl,HT2.out]; exact HO1.out,HB1.out⟩
     case measure => simp [intOf]; omega
  ·have hqi : ¬ (q : Int) < (g.ms.length : Int):=by omega
   have HE : Hid ((if numB t g.ts.length = true then pkN (fun x => decide (x.ow = t)) 0 (g.ms.take q) else []) = mtdN g t):=by show _ = _; rw [List.take_of_length_le (by omega)]; rfl
   go_wp2_with fail
   go_ret
   exact ⟨_,rfl,by rw [← HE.out]; exact HO.out.mono HB0.out.size,bstep HB0.out HB.out⟩
theorem FirstR.hit {f : Nat → Int} {m q : Nat} (hq : q < m) (h : ∀ k,k < q → f k = 0) (e : Int) (he : f q = e) (hne : e ≠ 0) : FirstR f m (q : Int) e := .inr ⟨q,hq,rfl,he.symm,by rw [he]; exact hne,h⟩
theorem FirstR.done {f : Nat → Int} {m : Nat} (h : ∀ k,k < m → f k = 0) : FirstR f m 0 0 := .inl ⟨rfl,rfl,h⟩
theorem zero_step {f : Nat → Int} {q : Nat} (h : ∀ k,k < q → f k = 0) (hq : f q = 0) : ∀ k,k < q + 1 → f k = 0:=fun k hk => by
 rcases Nat.lt_or_ge k q with g | g
 ·exact h k g
 ·obtain rfl : k = q:=by omega
  exact hq
def insA (x : Ins) : Array Value:=#[.int .i64 x.1,.int .i64 x.2.1,.int .i64 x.2.2.1,.int .i64 x.2.2.2.1,.int .i64 x.2.2.2.2.1,.bool x.2.2.2.2.2]
def tyA (x : Ty) : Array Value:=#[.int .i64 x.1,.int .i64 x.2.1,.int .i64 x.2.2.1,.bool x.2.2.2]

theorem two_boxes {w w0 : World} {A B : Array Value} {s t : TypeId} (h : w0 = (w.alloc (.cells A s)).alloc (.cells B t)) :
  Below w.heap.size w w0∧∀ W,Below w0.heap.size w0 W → At W w.heap.size A s∧At W (w.heap.size + 1) B t:=by
 subst h
 refine ⟨bbox (made_below _ _ _) _,fun W hW => ⟨((At.made w A s).next _).later hW, ?_⟩⟩
 have:=(At.made (w.alloc (.cells A s)) B t).later hW
 simpa using this
def mdA (x : MD) : Array Value:=#[.string x.nm,.int .i64 x.ow,.int .i64 x.fl,.slice x.pa x.ps.length x.pc,.int .i64 x.rt.1,.int .i64 x.rt.2.1,.int .i64 x.rt.2.2.1,.bool x.rt.2.2.2,.slice x.la x.ls.length x.lc,.int .i64 x.mx,.slice x.ca x.co.length x.cc,.slice x.ka x.cl.length x.kc]
def fdA (x : FD) : Array Value:=#[.string x.nm,.int .i64 x.ow,.int .i64 x.t.1,.int .i64 x.t.2.1,.int .i64 x.t.2.2.1,.bool x.t.2.2.2,.bool x.st]
def tdA (x : TD) : Array Value:=#[.string x.nm,.int .i64 x.fl,.int .i64 x.ex,.slice x.fa x.fs.length x.fc]
theorem neq_ty2 (W : World) (x y : Ty) : (binOp .neq 28 (.agg #[.int .i64 x.1,.int .i64 x.2.1,.int .i64 x.2.2.1,.bool x.2.2.2]) (.agg #[.int .i64 y.1,.int .i64 y.2.1,.int .i64 y.2.2.1,.bool y.2.2.2])).run Tryd.prog W = .ok (.bool (!decide (x = y))) W:=by
 obtain ⟨k,i,d,r⟩:=x
 obtain ⟨k',i',d',r'⟩:=y
 simp [go_sem]
 cases h1 : (k == k') <;> cases h2 : (i == i') <;> cases h3 : (d == d') <;> cases h4 : (r == r') <;> simp_all [go_sem]
theorem eq_ty2 (W : World) (x y : Ty) : (binOp .eql 28 (.agg #[.int .i64 x.1,.int .i64 x.2.1,.int .i64 x.2.2.1,.bool x.2.2.2]) (.agg #[.int .i64 y.1,.int .i64 y.2.1,.int .i64 y.2.2.1,.bool y.2.2.2])).run Tryd.prog W = .ok (.bool (decide (x = y))) W:=by
 rw [eq_ty]
 congr 2
 obtain ⟨k,i,d,r⟩:=x
 obtain ⟨k',i',d',r'⟩:=y
 rw [Bool.eq_iff_iff]
 simp [and_assoc]

set_option maxHeartbeats 1000000 in
theorem sameT11_eq {w : World} {ba oa ca bb ob cb : Nat} {xs ys : List Ty} (hle : xs.length = ys.length) (hl : xs.length ≤ maxLen) (ha : ∀ i (h : i < xs.length),El tyE w ba (oa + i * 4) xs[i]) (hb : ∀ i (h : i < ys.length),El tyE w bb (ob + i * 4) ys[i]) :
  Calls Tryd.prog 51 #[.slice (some ⟨ba,oa,none⟩) xs.length ca,.slice (some ⟨bb,ob,none⟩) xs.length cb] w fun e w' => e = .returned (.bool (decide (xs = ys)))∧∃ n,w' = w.drewN n:=by
 unfold maxLen at hl
 have HA : Hid (∀ i (h : i < xs.length),El tyE w ba (oa + i * 4) xs[i]):=ha
 have HB : Hid (∀ i (h : i < ys.length),El tyE w bb (ob + i * 4) ys[i]):=hb
 have h1 : ((xs.length : Int) != (xs.length : Int)) = false:=by simp
 clear ha hb
 go_enter Tryd.func51,Tryd.ntmps51
 go_wp2_with fail
 go_loopw [5] (fun z wr => ∃ q n : Nat,q ≤ xs.length∧z = .int .i64 (q : Int)∧wr = w.drewN n∧Hid (xs.take q = ys.take q)) (fun z _ => xs.length - (intOf z).toNat)
 case atStart => exact ⟨0,0,Nat.zero_le _,rfl,rfl,by show _ = _; simp⟩
 case round =>
  obtain ⟨q,n,hq,rfl,rfl,HT⟩:=hrel
  by_cases hql : q < xs.length
  ·have hqi : (q : Int) < (xs.length : Int):=by omega
   obtain ⟨c0,c1,c2,c3⟩:=(HA.out q hql).cells_Y
   obtain ⟨d0,d1,d2,d3⟩:=(HB.out q (by omega)).cells_Y
   have HN : Hid (xs[q] ≠ ys[q] → decide (xs = ys) = false):=fun h => by rw [decide_eq_false_iff_not]; intro e; subst e; exact h rfl
   have HY : Hid (xs[q] = ys[q] → xs.take (q + 1) = ys.take (q + 1)):=fun h => by rw [List.take_succ_eq_append_getElem hql,List.take_succ_eq_append_getElem (by omega),HT.out,h]
   have hnq : ∀ W : World,(binOp .neq 28 (.agg #[.int .i64 xs[q].1,.int .i64 xs[q].2.1,.int .i64 xs[q].2.2.1,.bool xs[q].2.2.2]) (.agg #[.int .i64 ys[q].1,.int .i64 ys[q].2.1,.int .i64 ys[q].2.2.1,.bool ys[q].2.2.2])).run Tryd.prog W = .ok (.bool (!decide (xs[q] = ys[q]))) W:=fun W => neq_ty2 W _ _
   by_cases he : xs[q] = ys[q]
   ·rw [decide_eq_true he] at hnq
    have HY2 : Hid _:=HY.out he
    clear he HY HN
    generalize xs[q] = x at *
    generalize ys[q] = y at *
    obtain ⟨x1,x2,x3,x4⟩:=x
    obtain ⟨y1,y2,y3,y4⟩:=y
    simp only at c0 c1 c2 c3 d0 d1 d2 d3 hnq
    go_wp2_with fail
    go_quiet (fail)
    go_wp2_with fail
    go_roundw
    case rel => exact ⟨q + 1,n + nq,by omega,by go_num,rfl,HY2.out⟩
    case measure => simp [intOf]; omega
   ·rw [decide_eq_false he] at hnq
    have HBad : Hid _:=HN.out he
    clear he HY HN
    generalize xs[q] = x at *
    generalize ys[q] = y at *
    obtain ⟨x1,x2,x3,x4⟩:=x
    obtain ⟨y1,y2,y3,y4⟩:=y
    simp only at c0 c1 c2 c3 d0 d1 d2 d3 hnq
    go_wp2_with fail
    go_quiet (fail)
    go_wp2_with fail
    go_ret
    exact ⟨ret_bool HBad.out.symm,n + nq,by rw [World.drewN_drewN]⟩
  ·have hqi : ¬ (q : Int) < (xs.length : Int):=by omega
   have HE : Hid (decide (xs = ys) = true):=by
    show _ = _
    rw [decide_eq_true_iff]
    have:=HT.out
    rwa [List.take_of_length_le (by omega),List.take_of_length_le (by omega)] at this
   go_wp2_with fail
   go_ret
   exact ⟨ret_bool HE.out.symm,n,rfl⟩
theorem sameT11_len (va vb : Option Addr) (la lb ca cb : Nat) (w : World) (hne : la ≠ lb) (ha : la ≤ maxLen) (hb : lb ≤ maxLen) :
  Calls Tryd.prog 51 #[.slice va la ca,.slice vb lb cb] w fun e w' => e = .returned (.bool false)∧w' = w:=by
 have h1 : ((la : Int) != (lb : Int)) = true:=by rw [bne_iff_ne]; omega
 go_enter Tryd.func51,Tryd.ntmps51
 go_wp2
 go_ret
 exact ⟨rfl,rfl⟩
theorem sameT11_empty (va vb : Option Addr) (ca cb : Nat) (w : World) :
  Calls Tryd.prog 51 #[.slice va 0 ca,.slice vb 0 cb] w fun e w' => e = .returned (.bool true)∧w' = w:=by
 go_enter Tryd.func51,Tryd.ntmps51
 go_wp2
 refine wp_loop_rounds 1 ?_; rw [rounds_succ]
 go_wp2
 go_ret
 exact ⟨rfl,rfl⟩
theorem sameT11_any {w : World} {va vb : Value} {xs ys : List Ty} (ha : Es tyE w va xs) (hb : Es tyE w vb ys) :
  Calls Tryd.prog 51 #[va,vb] w fun e w' => e = .returned (.bool (decide (xs = ys)))∧∃ n,w' = w.drewN n:=by
 by_cases hl : xs.length = ys.length
 ·by_cases hx : xs = []
  ·subst hx
   have hy : ys = []:=List.eq_nil_of_length_eq_zero hl.symm
   subst hy
   obtain ⟨a,ca,rfl,_,_⟩:=ha.shape
   obtain ⟨b,cb,rfl,_,_⟩:=hb.shape
   refine (sameT11_empty a b ca cb w).mono ?_
   rintro e w' ⟨rfl,rfl⟩
   exact ⟨ret_bool (by simp),0,rfl⟩
  ·have hll:=ha.len
   obtain ⟨b1,o1,c1,rfl,_,_,_,h1⟩:=ha.parts hx
   obtain ⟨b2,o2,c2,rfl,_,_,_,h2⟩:=hb.parts (by intro e; subst e; exact hx (List.eq_nil_of_length_eq_zero hl))
   have:=sameT11_eq (ca:=c1) (cb:=c2) hl hll h1 h2
   rw [← hl]
   exact this
 ·have h1:=ha.len
  have h2:=hb.len
  obtain ⟨a,ca,rfl,_,_⟩:=ha.shape
  obtain ⟨b,cb,rfl,_,_⟩:=hb.shape
  refine (sameT11_len a b _ _ ca cb w hl h1 h2).mono ?_
  rintro e w' ⟨rfl,rfl⟩
  exact ⟨ret_bool (by symm; rw [decide_eq_false_iff_not]; intro e; subst e; exact hl rfl),0,rfl⟩

def sgM (x y : MD) : Bool:=decide (x.rt = y.rt∧x.fl % 2 = y.fl % 2∧x.ps = y.ps)
theorem smM_eq (x y : MD) : smM x y = (decide (x.nm = y.nm) && sgM x y):=by
 unfold smM sgM
 rw [Bool.eq_iff_iff]
 simp only [decide_eq_true_iff,Bool.and_eq_true]
 constructor
 ·rintro ⟨a,b,c,d⟩; exact ⟨a,c,d,b⟩
 ·rintro ⟨a,c,d,b⟩; exact ⟨a,b,c,d⟩
theorem tmod2 {f : Int} (h : 0 ≤ f) : f.tmod 2 = f % 2:=Int.tmod_eq_emod_of_nonneg h

set_option maxHeartbeats 4000000 in
theorem refSameSig_any {x y : MD} {w : World} (hx : x.ok w) (hy : y.ok w) (h1 : 0 ≤ x.fl) (h2 : 0 ≤ y.fl) :
  Calls Tryd.prog 40 #[mdV x,mdV y] w fun e w' => e = .returned (.bool (sgM x y))∧Below w.heap.size w w':=by
 obtain ⟨w0,hw0⟩ : ∃ W,W = (w.alloc (.cells (mdA x) 47)).alloc (.cells (mdA y) 47):=⟨_,rfl⟩
 have HW0 : Hid (w0 = _):=hw0
 obtain ⟨hb0,hat⟩:=two_boxes hw0
 have HB0 : Hid (Below w.heap.size w w0):=hb0
 obtain ⟨hA1,hA2⟩:=hat w0 (Below.refl _ _)
 have c1:=hA1.cell
 have c2:=hA2.cell
 have HST : Hid (Calls Tryd.prog 51 #[.slice x.pa x.ps.length x.pc,.slice y.pa y.ps.length y.pc] w0 fun e w' => e = .returned (.bool (decide (x.ps = y.ps)))∧∃ n,w' = w0.drewN n):=sameT11_any (hx.ps.later hb0) (hy.ps.later hb0)
 have hq : ∀ W : World,(binOp .eql 28 (.agg #[.int .i64 x.rt.1,.int .i64 x.rt.2.1,.int .i64 x.rt.2.2.1,.bool x.rt.2.2.2]) (.agg #[.int .i64 y.rt.1,.int .i64 y.rt.2.1,.int .i64 y.rt.2.2.1,.bool y.rt.2.2.2])).run Tryd.prog W = .ok (.bool (decide (x.rt = y.rt))) W:=fun W => eq_ty2 W _ _
 have m1:=tmod2 h1
 have m2:=tmod2 h2
 have HR : Hid (sgM x y = (decide (x.rt = y.rt) && (x.fl % 2 == y.fl % 2) && decide (x.ps = y.ps))):=by
  show _ = _
  unfold sgM
  rw [Bool.eq_iff_iff]
  simp [and_assoc]
 unfold mdA at c1 c2 HW0
 clear hw0 hb0 hat hA1 hA2 hx hy
 generalize decide (x.rt = y.rt) = r1 at *
 generalize decide (x.ps = y.ps) = r3 at *
 unfold mdV
 go_enter Tryd.func40,Tryd.ntmps40
 cases r1 with
 | false =>
  go_wp2_with (rw [← HW0.out])
  go_ret
  exact ⟨ret_bool (by rw [HR.out]; rfl),HB0.out⟩
 | true =>
  cases r2 : (x.fl % 2 == y.fl % 2) with
  | false =>
   go_wp2_with (rw [← HW0.out])
   go_ret
   exact ⟨ret_bool (by rw [HR.out,r2]; rfl),HB0.out⟩
  | true =>
   go_wp2_with (rw [← HW0.out])
   refine Calls.mono HST.out ?_
   rintro e w1 ⟨rfl,n,rfl⟩
   go_wp2_with fail
   go_ret
   exact ⟨ret_bool (by rw [HR.out,r2]; rfl),Below.drewN HB0.out _⟩
end Go.Proofs.YtapocgcdjkbnhaaDoor
