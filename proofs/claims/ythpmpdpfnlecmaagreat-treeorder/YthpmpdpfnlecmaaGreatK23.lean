/- Texts joined: Wakes11, TakeH, RefFlag11. -/
import Derived.Test.YthpmpdpfnlecmaaGreatK22
import Derived.Test.YthpmpdpfnlecmaaGreatK01
import Derived.Deep.RegionHeld3
import Derived.Test.YthpmpdpfnlecmaaGreatK13
namespace Go.Proofs.YthpmpdpfnlecmaaGreat
set_option linter.unusedVariables false
set_option linter.unusedSimpArgs false
open Go.RowKit
attribute [local go_sem ↓] Go.wp_at_zero Go.wp_at_succ
/-- Two classes, of which the first extends the second one, and this one what is told. -/
def gAB (a : Option Addr) (e : Int) : Img := ⟨a, 2, [⟨⟨#[65]⟩, 0, 1, none, 0, []⟩, ⟨⟨#[66]⟩, 0, e, none, 0, []⟩], none, 0, [], none, 0, [], -1⟩
theorem gAB_im0 (a : Option Addr) : imB (gAB a 0) = true := by kernel_rfl
theorem gAB_im1 (a : Option Addr) : imB (gAB a (-1)) = true := by kernel_rfl
theorem gAB_pl {a : Option Addr} {e : Int} (h : imB (gAB a e) = true) : Pl (gAB a e) := ⟨h, fun x hx => by
 simp only [gAB, List.mem_cons, List.not_mem_nil, or_false] at hx
 rcases hx with rfl | rfl <;> exact ⟨rfl, rfl⟩, rfl, rfl⟩
theorem gAB_nm (a : Option Addr) (e : Int) : NmOk (gAB a e) := fun i hi j hj hne => by
 have h1 : i < 2 := hi
 have h2 : j < 2 := hj
 have hi2 : i = 0 ∨ i = 1 := by omega
 have hj2 : j = 0 ∨ j = 1 := by omega
 rcases hi2 with rfl | rfl <;> rcases hj2 with rfl | rfl
 ·exact absurd rfl hne
 ·show (⟨#[65]⟩ : ByteArray) ≠ ⟨#[66]⟩
  intro h; exact absurd (congrArg ByteArray.data h) (by decide)
 ·show (⟨#[66]⟩ : ByteArray) ≠ ⟨#[65]⟩
  intro h; exact absurd (congrArg ByteArray.data h) (by decide)
 ·exact absurd rfl hne
theorem gAB_bad0 (a : Option Addr) : extB (gAB a 0) 0 = false := by kernel_rfl
theorem gAB_ext0 (a : Option Addr) : extB (gAB a (-1)) 0 = true := by kernel_rfl
theorem gAB_ext1 (a : Option Addr) : extB (gAB a (-1)) 1 = true := by kernel_rfl
theorem gAB_bel1 (a : Option Addr) : belB (gAB a (-1)) 0 1 = true := by kernel_rfl
theorem gAB_bel2 (a : Option Addr) : belB (gAB a (-1)) 1 0 = false := by kernel_rfl
theorem gAB_imV (a : Option Addr) (e : Int) : imV (gAB a e) = .agg #[.slice a 2 2, .slice none 0 0, .slice none 0 0, .int .i64 (-1)] := by kernel_rfl
theorem gAB_len (a : Option Addr) (e : Int) : (gAB a e).ts.length = 2 := by kernel_rfl
theorem gAB_chk0 {a : Option Addr} {w : World} (h : Im w (gAB a 0)) : Calls Tryz.prog 31 #[.agg #[.slice a 2 2, .slice none 0 0, .slice none 0 0, .int .i64 (-1)]] w fun e w' => e = .returned (.tuple #[.int .i64 0, .int .i64 7]) ∧ Below w.heap.size w w' := by
 have := plCheck_bad h (gAB_pl (gAB_im0 a)) (gAB_bad0 a) (by rw [gAB_len]; omega)
 rw [gAB_imV] at this; exact this
theorem gAB_chk1 {a : Option Addr} {w : World} (h : Im w (gAB a (-1))) : Calls Tryz.prog 31 #[.agg #[.slice a 2 2, .slice none 0 0, .slice none 0 0, .int .i64 (-1)]] w fun e w' => e = .returned (.tuple #[.int .i64 0, .int .i64 0]) ∧ Below w.heap.size w w' := by
 have := plCheck_ok h (gAB_pl (gAB_im1 a)) (gAB_nm a _) (fun k hk => by
  rw [gAB_len] at hk
  have h2 : k = 0 ∨ k = 1 := by omega
  rcases h2 with rfl | rfl
  ·exact gAB_ext0 a
  ·exact gAB_ext1 a) (by rw [gAB_len]; omega)
 rw [gAB_imV] at this; exact this
theorem gAB_bel {a : Option Addr} {w : World} (h : Im w (gAB a (-1))) : Calls Tryz.prog 12 #[.agg #[.slice a 2 2, .slice none 0 0, .slice none 0 0, .int .i64 (-1)], .int .i64 0, .int .i64 1] w fun e w' => e = .returned (.bool true) ∧ Below w.heap.size w w' := by
 have := below_any (a := 0) (b := 1) h (gAB_im1 a) (wf_of (by omega))
 rw [gAB_bel1, gAB_imV] at this; exact this
theorem gAB_bel' {a : Option Addr} {w : World} (h : Im w (gAB a (-1))) : Calls Tryz.prog 12 #[.agg #[.slice a 2 2, .slice none 0 0, .slice none 0 0, .int .i64 (-1)], .int .i64 1, .int .i64 0] w fun e w' => e = .returned (.bool false) ∧ Below w.heap.size w w' := by
 have := below_any (a := 1) (b := 0) h (gAB_im1 a) (wf_of (by omega))
 rw [gAB_bel2, gAB_imV] at this; exact this
theorem gAB_made {w w1 : World} {e : Int} (h : w1 = w.alloc (.cells #[.string ⟨#[65]⟩, .int .i64 0, .int .i64 1, .slice none 0 0, .string ⟨#[66]⟩, .int .i64 0, .int .i64 e, .slice none 0 0] 34)) : Below w.heap.size w w1 ∧ Im w1 (gAB (some ⟨w.heap.size, 0, none⟩) e) := by
 subst h
 refine ⟨made_below _ _ _, ?_, fun x hx => ?_, Es.nil _ _, Es.nil _ _, fun x hx => absurd hx (by simp [gAB])⟩
 ·exact (OwnE.lit tdE w 0 34 [⟨⟨#[65]⟩, 0, 1, none, 0, []⟩, ⟨⟨#[66]⟩, 0, e, none, 0, []⟩] _ 2 (Nat.zero_le _) rfl rfl (by simp [maxLen])).es
 ·simp only [gAB, List.mem_cons, List.not_mem_nil, or_false] at hx
  rcases hx with rfl | rfl <;> exact Es.nil _ _

set_option maxHeartbeats 4000000 in
theorem wakes11_any (w : World) :
  Calls Tryz.prog 9 #[] w fun e w' => e = .returned (.bool true) ∧ Below w.heap.size w w' := by
 obtain ⟨w1, hw1⟩ : ∃ W, W = w.alloc (.cells #[.string ⟨#[65]⟩, .int .i64 0, .int .i64 1, .slice none 0 0, .string ⟨#[66]⟩, .int .i64 0, .int .i64 0, .slice none 0 0] 34) := ⟨_, rfl⟩
 have HW1 : Hid (w1 = _) := hw1
 obtain ⟨hb1, hi1⟩ := gAB_made hw1
 have HB1 : Hid (Below w.heap.size w w1) := hb1
 have HC1 : Hid (Calls Tryz.prog 31 #[.agg #[.slice (some ⟨w.heap.size, 0, none⟩) 2 2, .slice none 0 0, .slice none 0 0, .int .i64 (-1)]] w1 fun e w' => e = .returned (.tuple #[.int .i64 0, .int .i64 7]) ∧ Below w1.heap.size w1 w') := gAB_chk0 hi1
 clear hw1 hb1 hi1
 go_enter Tryz.func9, Tryz.ntmps9
 go_wp2_with (rw [← HW1.out])
 refine Calls.mono HC1.out ?_
 rintro e w2 ⟨rfl, hb2⟩
 have HB2 : Hid (Below w.heap.size w w2) := bstep HB1.out hb2
 obtain ⟨w3, hw3⟩ : ∃ W, W = w2.alloc (.cells #[.string ⟨#[65]⟩, .int .i64 0, .int .i64 1, .slice none 0 0, .string ⟨#[66]⟩, .int .i64 0, .int .i64 (-1), .slice none 0 0] 34) := ⟨_, rfl⟩
 obtain ⟨hb3, hi3⟩ := gAB_made hw3
 obtain ⟨w4, hw4⟩ : ∃ W, W = w3.alloc (.cells #[.slice (some ⟨w2.heap.size, 0, none⟩) 2 2, .slice none 0 0, .slice none 0 0, .int .i64 (-1)] 26) := ⟨_, rfl⟩
 have hb4 : Below w3.heap.size w3 w4 := by rw [hw4]; exact made_below _ _ _
 have hbx : At w4 w3.heap.size #[.slice (some ⟨w2.heap.size, 0, none⟩) 2 2, .slice none 0 0, .slice none 0 0, .int .i64 (-1)] 26 := by rw [hw4]; exact At.made _ _ _
 have HB4 : Hid (Below w.heap.size w w4) := bstep (bstep HB2.out hb3) hb4
 have HBx : Hid (∀ W, Below w4.heap.size w4 W → At W w3.heap.size #[.slice (some ⟨w2.heap.size, 0, none⟩) 2 2, .slice none 0 0, .slice none 0 0, .int .i64 (-1)] 26) := fun W hW => hbx.later hW
 have HIm : Hid (∀ W, Below w4.heap.size w4 W → Im W (gAB (some ⟨w2.heap.size, 0, none⟩) (-1))) := fun W hW => (hi3.later hb4).later hW
 have HW3 : Hid (w3 = _) := hw3
 have HW4 : Hid (w4 = _) := hw4
 have HC2 : Hid (Calls Tryz.prog 31 #[.agg #[.slice (some ⟨w2.heap.size, 0, none⟩) 2 2, .slice none 0 0, .slice none 0 0, .int .i64 (-1)]] w4 fun e w' => e = .returned (.tuple #[.int .i64 0, .int .i64 0]) ∧ Below w4.heap.size w4 w') := gAB_chk1 (HIm.out w4 (Below.refl _ _))
 have HBl1 : Hid (∀ W, Below w4.heap.size w4 W → Calls Tryz.prog 12 #[.agg #[.slice (some ⟨w2.heap.size, 0, none⟩) 2 2, .slice none 0 0, .slice none 0 0, .int .i64 (-1)], .int .i64 0, .int .i64 1] W fun e w' => e = .returned (.bool true) ∧ Below W.heap.size W w') := fun W hW => gAB_bel (HIm.out W hW)
 have HBl2 : Hid (∀ W, Below w4.heap.size w4 W → Calls Tryz.prog 12 #[.agg #[.slice (some ⟨w2.heap.size, 0, none⟩) 2 2, .slice none 0 0, .slice none 0 0, .int .i64 (-1)], .int .i64 1, .int .i64 0] W fun e w' => e = .returned (.bool false) ∧ Below W.heap.size W w') := fun W hW => gAB_bel' (HIm.out W hW)
 have x4 := hbx.cell
 clear hw3 hw4 hb2 hb3 hb4 hi3 hbx HC1
 go_wp2_with (first | (rw [← HW4.out]) | (rw [← HW3.out]))
 refine Calls.mono HC2.out ?_
 rintro e w5 ⟨rfl, hb5⟩
 have HB5 : Hid (Below w4.heap.size w4 w5) := hb5
 have x5 := (HBx.out w5 hb5).cell
 clear x4 hb5
 go_wp2_with fail
 refine Calls.mono (HBl1.out w5 HB5.out) ?_
 rintro e w6 ⟨rfl, hb6⟩
 have HB6 : Hid (Below w4.heap.size w4 w6) := bstep HB5.out hb6
 have x6 := (HBx.out w6 HB6.out).cell
 clear x5 hb6
 go_wp2_with fail
 refine Calls.mono (HBl2.out w6 HB6.out) ?_
 rintro e w7 ⟨rfl, hb7⟩
 have HB7 : Hid (Below w4.heap.size w4 w7) := bstep HB6.out hb7
 clear x6 hb7
 go_wp2_with fail
 go_ret
 exact ⟨rfl, bstep HB4.out HB7.out⟩

/-- A number drawn among so many. -/
theorem drawn_num {a : Int} {n : Nat} (ha : 0 ≤ a) (hn : 0 < n) : ∃ r : Nat, r < n ∧ a.tmod (n : Int) = (r : Int) ∧ numB (r : Int) n = true := by
 have h1 := Int.emod_nonneg a (by omega : (n : Int) ≠ 0)
 have h2 := Int.emod_lt_of_pos a (by omega : 0 < (n : Int))
 refine ⟨(a % (n : Int)).toNat, by omega, ?_, ?_⟩
 ·rw [Int.tmod_eq_emod_of_nonneg ha]; omega
 ·rw [numB_iff]; omega
end Go.Proofs.YthpmpdpfnlecmaaGreat

namespace Go.Proofs.YthpmpdpfnlecmaaGreat
set_option linter.unusedVariables false
set_option linter.unusedSimpArgs false
open Go.RowKit
theorem sA {α : Type} (l : List α) (i : Nat) (a : α) : l.toArray.setIfInBounds i a = (l.set i a).toArray := List.setIfInBounds_toArray l i a
theorem s0 {α : Type} (x a : α) (l : List α) : (x :: l).set 0 a = a :: l := List.set_cons_zero
theorem sS {α : Type} (x a : α) (l : List α) (n : Nat) : (x :: l).set (n + 1) a = x :: l.set n a := List.set_cons_succ
/-- The same, and what it leaves written out. -/
theorem tY {P : Program} {md : Region.Mode} {ops : Array Oper} {Q : Exit → Act → World → Prop} {S : World → Prop} {fuel : Nat} {listed : Array Bool} {a a' : Act} {w : World} (i : Nat) (oi : Oper) (v : Value)
  (hS : S w) (h : wpAnyH P md ops Q S fuel (listed.setIfInBounds i true) a' w) (ha : a.put oi.dst v = a' := by (simp only [Act.put, sA, s0, sS]; first | done | exact rfl)) (hi : ops[i]? = some oi := by rfl) (hs : Region.noSelect ops = true := by kernel_rfl) (hf : Region.free md ops listed i = true := by kernel_rfl)
  (hr : (Region.ready md ops listed).contains i = true := by kernel_rfl) (hQ : ∀ c a w, Q (.panic c) (a.put oi.dst v) w → Q (.panic c) a w := by exact fun _ _ _ h => h)
  (hy : YieldsIf P ops S oi v a := by exact Or.inl ⟨by rfl, by intro w' hSw; (try dsimp only at hSw); go_simp⟩) : wpAnyH P md ops Q S (fuel + 1) listed a w := by subst ha; exact wpAnyH_take hi hs hf hr hQ hy hS h
theorem tN {P : Program} {md : Region.Mode} {ops : Array Oper} {Q : Exit → Act → World → Prop} {S : World → Prop} {fuel : Nat} {listed : Array Bool} {a a' : Act} {w : World} (i : Nat) (oi : Oper)
  (hS : S w) (h : wpAnyH P md ops Q S fuel (listed.setIfInBounds i true) a' w) (ha : a.put oi.dst undef = a' := by (simp only [Act.put, sA, s0, sS]; first | done | exact rfl)) (hi : ops[i]? = some oi := by rfl) (hs : Region.noSelect ops = true := by kernel_rfl) (hf : Region.free md ops listed i = true := by kernel_rfl)
  (hr : (Region.ready md ops listed).contains i = true := by kernel_rfl) (hQ : ∀ c a w, Q (.panic c) (a.put oi.dst undef) w → Q (.panic c) a w := by exact fun _ _ _ h => h)
  (hy : YieldsIf P ops S oi undef a := by exact Or.inr ⟨by rfl, rfl⟩) : wpAnyH P md ops Q S (fuel + 1) listed a w := by subst ha; exact wpAnyH_take hi hs hf hr hQ hy hS h
end Go.Proofs.YthpmpdpfnlecmaaGreat

namespace Go.Proofs.YthpmpdpfnlecmaaGreat
set_option linter.unusedVariables false
set_option linter.unusedSimpArgs false
open Go.RowKit
attribute [local go_sem ↓] Go.wp_at_zero Go.wp_at_succ
theorem pkN_append {α : Type} (p : α → Bool) : ∀ (a b : List α) (i : Int), pkN p i (a ++ b) = pkN p i a ++ pkN p (i + (a.length : Int)) b
 | [], b, i => by simp [pkN]
 | c :: r, b, i => by
  simp only [List.cons_append, pkN, pkN_append p r b (i + 1), List.append_assoc, List.length_cons]
  rw [show i + 1 + (r.length : Int) = i + ((r.length + 1 : Nat) : Int) by omega]
theorem pkN_take {α : Type} (p : α → Bool) (l : List α) (q : Nat) (h : q < l.length) : pkN p 0 (l.take (q + 1)) = pkN p 0 (l.take q) ++ (if p l[q] = true then [(q : Int)] else []) := by
 rw [List.take_succ_eq_append_getElem h, pkN_append, List.length_take, Nat.min_eq_left (by omega)]
 simp [pkN]
theorem pkN_len {α : Type} (p : α → Bool) : ∀ (l : List α) (i : Int), (pkN p i l).length ≤ l.length
 | [], _ => by simp [pkN]
 | c :: r, i => by
  have := pkN_len p r (i + 1)
  simp only [pkN, List.length_append, List.length_cons]
  split <;> simp <;> omega
theorem pkN_num {α : Type} (p : α → Bool) : ∀ (l : List α) (i : Nat), ∀ x ∈ pkN p (i : Int) l, ∃ k, x = ((i + k : Nat) : Int) ∧ ∃ h : k < l.length, p l[k] = true
 | [], _, x, h => by simp [pkN] at h
 | c :: r, i, x, h => by
  simp only [pkN, List.mem_append] at h
  rcases h with h | h
  ·split at h
   ·rename_i hc
    simp at h
    exact ⟨0, by rw [h]; simp, by simp, by simpa using hc⟩
   ·simp at h
  ·rw [show ((i : Int) + 1) = ((i + 1 : Nat) : Int) by omega] at h
   obtain ⟨k, rfl, hk, hp⟩ := pkN_num p r (i + 1) x h
   exact ⟨k + 1, by congr 1; omega, by simpa using hk, by simpa using hp⟩
theorem fldN_num {g : Img} {t x : Int} (h : x ∈ fldN g t) : ∃ k : Nat, x = (k : Int) ∧ k < g.fs.length := by
 unfold fldN at h
 split at h
 ·obtain ⟨k, rfl, hk, _⟩ := pkN_num _ _ 0 x h
  exact ⟨k, by simp, hk⟩
 ·simp at h
theorem mtdN_num {g : Img} {t x : Int} (h : x ∈ mtdN g t) : ∃ k : Nat, x = (k : Int) ∧ k < g.ms.length := by
 unfold mtdN at h
 split at h
 ·obtain ⟨k, rfl, hk, _⟩ := pkN_num _ _ 0 x h
  exact ⟨k, by simp, hk⟩
 ·simp at h
theorem fldN_len (g : Img) (t : Int) : (fldN g t).length ≤ g.fs.length := by
 unfold fldN; split
 ·exact pkN_len _ _ _
 ·simp
theorem mtdN_len (g : Img) (t : Int) : (mtdN g t).length ≤ g.ms.length := by
 unfold mtdN; split
 ·exact pkN_len _ _ _
 ·simp

set_option maxHeartbeats 8000000 in
theorem refFlagged_any {g : Img} {q : Nat} {w : World} (hg : Im w g) (hi : imB g = true) (hq : q < g.ts.length) :
  Calls Tryz.prog 65 #[imV g, .int .i64 q] w fun e w' => e = .returned (.bool (flgF g.ts[q].fl g.ts[q].ex)) ∧ Below w.heap.size w w' := by
 obtain ⟨w0, hw0⟩ : ∃ W, W = w.alloc (.cells (imC g) 26) := ⟨_, rfl⟩
 have HW0 : Hid (w0 = _) := hw0
 obtain ⟨hb0, hgb⟩ := GB.made hg hw0
 have HB0 : Hid (Below w.heap.size w w0) := hb0
 have hfq := FlOk.of hi _ (List.getElem_mem hq)
 have HKd : Hid (Calls Tryz.prog 27 #[.agg (imC g), .int .i64 q] w0 fun e w' => e = .returned (.int .i64 (kindF g.ts[q].fl)) ∧ Below w0.heap.size w0 w') := by
  have := refKind_any (q : Int) hgb.im (FlOk.of hi)
  rwa [knd_at hq] at this
 obtain ⟨tb, off, hta, h8, h9, hty⟩ := hgb.ty (by intro e; rw [e] at hq; simp at hq)
 obtain ⟨c0, hd⟩ := hty w0 (Below.refl _ _)
 obtain ⟨k0, k1, k2, k3⟩ := hd q hq
 obtain ⟨_, c1, c2, c3⟩ := hgb.cells
 have HBt : Hid (∀ (k : Nat) (_ : 1 ≤ k ∧ k ≤ 16) W, Calls Tryz.prog 60 #[.int .i64 g.ts[q].fl, .int .i64 (k : Int)] W fun e w' => e = .returned (.bool (bitB g.ts[q].fl k)) ∧ w' = W) := fun k hk W => refBit_any hfq hk W
 have hqi : (q : Int) < (g.ts.length : Int) := by omega
 unfold imC at HW0 HKd
 unfold maxLen at h9
 rw [hta] at HKd
 clear hw0 hb0 hgb hg hi hfq hty hd
 have HTA : Hid (g.ta = _) := hta
 clear hta
 generalize g.ts[q] = x at *
 obtain ⟨f, hf⟩ : ∃ f, f = x.fl := ⟨_, rfl⟩
 rw [← hf] at HKd HBt k1
 rw [← hf]
 clear hf
 unfold imV
 go_enter Tryz.func65, Tryz.ntmps65
 go_wp2_with (rw [← HW0.out])
 refine Calls.mono HKd.out ?_
 rintro e w1 ⟨rfl, hb1⟩
 have HB1 : Hid (Below w.heap.size w w1) := bstep HB0.out hb1
 clear hb1 c0 c1 c2 c3 k0 k1 k2 k3 HKd
 by_cases h2 : kindF f = 2
 ·have HR : Hid (flgF f x.ex = (decide (x.ex = -1) && (bitB f 4 && !bitB f 1 && !bitB f 8 && !bitB f 16))) := by show _ = _; unfold flgF; rw [if_pos h2]
  rw [h2]
  clear h2
  by_cases he : x.ex = -1
  ·have he' : (x.ex == -1) = true := by simpa using he
   have hde : decide (x.ex = -1) = true := decide_eq_true he
   clear he
   go_wp2_with fail
   refine (HBt.out 4 (by omega) _).mono ?_
   rintro e wz ⟨rfl, hz⟩
   subst wz
   cases hb4 : bitB f 4 with
   | true =>
    go_wp2_with fail
    refine (HBt.out 1 (by omega) _).mono ?_
    rintro e wz ⟨rfl, hz⟩
    subst wz
    cases hb1 : bitB f 1 with
    | true =>
     go_wp2_with fail
     go_ret
     exact ⟨ret_bool (by rw [HR.out]; simp [hde, hb4, hb1]), HB1.out⟩
    | false =>
     go_wp2_with fail
     refine (HBt.out 8 (by omega) _).mono ?_
     rintro e wz ⟨rfl, hz⟩
     subst wz
     cases hb8 : bitB f 8 with
     | true =>
      go_wp2_with fail
      go_ret
      exact ⟨ret_bool (by rw [HR.out]; simp [hde, hb4, hb1, hb8]), HB1.out⟩
     | false =>
      go_wp2_with fail
      refine (HBt.out 16 (by omega) _).mono ?_
      rintro e wz ⟨rfl, hz⟩
      subst wz
      cases hb16 : bitB f 16 with
      | true =>
       go_wp2_with fail
       go_ret
       exact ⟨ret_bool (by rw [HR.out]; simp [hde, hb4, hb1, hb8, hb16]), HB1.out⟩
      | false =>
       go_wp2_with fail
       go_ret
       exact ⟨ret_bool (by rw [HR.out]; simp [hde, hb4, hb1, hb8, hb16]), HB1.out⟩
   | false =>
    go_wp2_with fail
    go_ret
    exact ⟨ret_bool (by rw [HR.out]; simp [hde, hb4]), HB1.out⟩
  ·have he' : (x.ex == -1) = false := by simpa using he
   have hde : decide (x.ex = -1) = false := decide_eq_false he
   clear he
   go_wp2_with fail
   go_ret
   exact ⟨ret_bool (by rw [HR.out]; simp [hde]), HB1.out⟩
 ·by_cases h1 : kindF f = 1
  ·have HR : Hid (flgF f x.ex = (decide (x.ex = -1) && (bitB f 8 && !bitB f 4 && !bitB f 16))) := by show _ = _; unfold flgF; rw [if_neg h2, if_pos h1]
   rw [h1]
   clear h1 h2
   by_cases he : x.ex = -1
   ·have he' : (x.ex == -1) = true := by simpa using he
    have hde : decide (x.ex = -1) = true := decide_eq_true he
    clear he
    go_wp2_with fail
    refine (HBt.out 8 (by omega) _).mono ?_
    rintro e wz ⟨rfl, hz⟩
    subst wz
    cases hb8 : bitB f 8 with
    | true =>
     go_wp2_with fail
     refine (HBt.out 4 (by omega) _).mono ?_
     rintro e wz ⟨rfl, hz⟩
     subst wz
     cases hb4 : bitB f 4 with
     | true =>
      go_wp2_with fail
      go_ret
      exact ⟨ret_bool (by rw [HR.out]; simp [hde, hb8, hb4]), HB1.out⟩
     | false =>
      go_wp2_with fail
      refine (HBt.out 16 (by omega) _).mono ?_
      rintro e wz ⟨rfl, hz⟩
      subst wz
      cases hb16 : bitB f 16 with
      | true =>
       go_wp2_with fail
       go_ret
       exact ⟨ret_bool (by rw [HR.out]; simp [hde, hb8, hb4, hb16]), HB1.out⟩
      | false =>
       go_wp2_with fail
       go_ret
       exact ⟨ret_bool (by rw [HR.out]; simp [hde, hb8, hb4, hb16]), HB1.out⟩
    | false =>
     go_wp2_with fail
     go_ret
     exact ⟨ret_bool (by rw [HR.out]; simp [hde, hb8]), HB1.out⟩
   ·have he' : (x.ex == -1) = false := by simpa using he
    have hde : decide (x.ex = -1) = false := decide_eq_false he
    clear he
    go_wp2_with fail
    go_ret
    exact ⟨ret_bool (by rw [HR.out]; simp [hde]), HB1.out⟩
  ·by_cases h3 : kindF f = 3
   ·have HR : Hid (flgF f x.ex = (decide (x.ex = -1) && (bitB f 8 && !bitB f 4))) := by show _ = _; unfold flgF; rw [if_neg h2, if_neg h1, if_pos h3]
    rw [h3]
    clear h1 h2 h3
    by_cases he : x.ex = -1
    ·have he' : (x.ex == -1) = true := by simpa using he
     have hde : decide (x.ex = -1) = true := decide_eq_true he
     clear he
     go_wp2_with fail
     refine (HBt.out 8 (by omega) _).mono ?_
     rintro e wz ⟨rfl, hz⟩
     subst wz
     cases hb8 : bitB f 8 with
     | true =>
      go_wp2_with fail
      refine (HBt.out 4 (by omega) _).mono ?_
      rintro e wz ⟨rfl, hz⟩
      subst wz
      cases hb4 : bitB f 4 with
      | true =>
       go_wp2_with fail
       go_ret
       exact ⟨ret_bool (by rw [HR.out]; simp [hde, hb8, hb4]), HB1.out⟩
      | false =>
       go_wp2_with fail
       go_ret
       exact ⟨ret_bool (by rw [HR.out]; simp [hde, hb8, hb4]), HB1.out⟩
     | false =>
      go_wp2_with fail
      go_ret
      exact ⟨ret_bool (by rw [HR.out]; simp [hde, hb8]), HB1.out⟩
    ·have he' : (x.ex == -1) = false := by simpa using he
     have hde : decide (x.ex = -1) = false := decide_eq_false he
     clear he
     go_wp2_with fail
     go_ret
     exact ⟨ret_bool (by rw [HR.out]; simp [hde]), HB1.out⟩
   ·have HR : Hid (flgF f x.ex = true) := by show _ = _; unfold flgF; rw [if_neg h2, if_neg h1, if_neg h3]
    have h0 : kindF f = 0 := by unfold kindF at h1 h2 h3 ⊢; split <;> simp_all
    rw [h0]
    clear h0 h1 h2 h3
    go_wp2_with fail
    go_ret
    exact ⟨ret_bool HR.out.symm, HB1.out⟩

set_option maxHeartbeats 4000000 in
set_option maxRecDepth 100000 in
theorem refFields_any {g : Img} {t : Int} {w : World} (hg : Im w g) (hi : imB g = true) :
  Calls Tryz.prog 117 #[imV g, .int .i64 t] w fun e w' => ∃ v, e = .returned v ∧ OwnI w' w.heap.size v (fldN g t) ∧ Below w.heap.size w w' := by
 obtain ⟨w0, hw0⟩ : ∃ W, W = w.alloc (.cells (imC g) 26) := ⟨_, rfl⟩
 have HW0 : Hid (w0 = _) := hw0
 obtain ⟨hb0, hgb⟩ := GB.made hg hw0
 have HB0 : Hid (Below w.heap.size w w0) := hb0
 have HG : Hid (GB w0 w.heap.size g) := hgb
 have hln := im_len hi
 have HTh : Hid (∀ W, Below w0.heap.size w0 W → Calls Tryz.prog 59 #[.agg (imC g), .int .i64 t] W fun e w' => e = .returned (.bool (numB t g.ts.length)) ∧ Below W.heap.size W w') := fun W hW => refThere_any t (hgb.im.later hW)
 have HC4 : Hid (∀ W, Below w0.heap.size w0 W → W.cell? ⟨w.heap.size, 0, none⟩ = some (.slice g.ta g.ts.length g.tc) ∧ W.cell? ⟨w.heap.size, 1, none⟩ = some (.slice g.fa g.fs.length g.fc) ∧ W.cell? ⟨w.heap.size, 2, none⟩ = some (.slice g.ma g.ms.length g.mc) ∧ W.cell? ⟨w.heap.size, 3, none⟩ = some (.int .i64 g.en)) := fun W hW => (hgb.later hW).cells
 unfold imC at HW0 HTh
 clear hw0 hb0 hgb hg hi
 unfold imV
 go_enter Tryz.func117, Tryz.ntmps117
 go_wp2_with (rw [← HW0.out])
 go_loopw [5, 6] (fun lv z wr => ∃ q : Nat, q ≤ g.fs.length ∧ z = .int .i64 q ∧ Hid (OwnI wr w0.heap.size lv (if numB t g.ts.length = true then pkN (fun x => decide (x.ow = t)) 0 (g.fs.take q) else [])) ∧ Hid (Below w0.heap.size w0 wr)) (fun _ z _ => g.fs.length - (intOf z).toNat)
 case atStart => exact ⟨0, Nat.zero_le _, rfl, by show OwnI _ _ _ _; split <;> exact OwnI.nil _ _, Below.refl _ _⟩
 case round =>
  obtain ⟨q, hq, rfl, HO, HB⟩ := hrel
  obtain ⟨c0, c1, c2, c3⟩ := HC4.out wr HB.out
  by_cases hql : q < g.fs.length
  ·have hqi : (q : Int) < (g.fs.length : Int) := by omega
   go_wp2_with fail
   refine Calls.mono (HTh.out wr HB.out) ?_
   rintro e w1 ⟨rfl, hb1⟩
   have HB1 : Hid (Below w0.heap.size w0 w1) := bstep HB.out hb1
   have HO1 : Hid (OwnI w1 w0.heap.size u5 (if numB t g.ts.length = true then pkN (fun x => decide (x.ow = t)) 0 (g.fs.take q) else [])) := OwnI.later HO.out hb1
   clear hb1 c0 c1 c2 c3 HO HB
   cases hn : numB t g.ts.length with
   | false =>
    rw [hn] at HO1
    have HNb : Hid (numB t g.ts.length = false) := hn
    clear hn
    go_wp2_with fail
    go_roundw
    case rel => exact ⟨q + 1, by omega, by go_num, by rw [HNb.out]; exact HO1.out, HB1.out⟩
    case measure => simp [intOf]; omega
   | true =>
    rw [hn, if_pos rfl] at HO1
    have HNb : Hid (numB t g.ts.length = true) := hn
    have HT : Hid (pkN (fun x => decide (x.ow = t)) 0 (g.fs.take (q + 1)) = pkN (fun x => decide (x.ow = t)) 0 (g.fs.take q) ++ (if (fun x => decide (x.ow = t)) g.fs[q] = true then [(q : Int)] else [])) := pkN_take _ _ _ hql
    have hpl := pkN_len (fun x => decide (x.ow = t)) (g.fs.take q) 0
    rw [List.length_take] at hpl
    obtain ⟨tb, off, hta, h8, h9, hty⟩ := HG.out.fd (by intro e; rw [e] at hql; simp at hql)
    obtain ⟨d1, hd⟩ := hty w1 HB1.out
    obtain ⟨k0, k1, k2, k3, k4, k5, k6⟩ := (hd q hql).cells_F
    unfold maxLen at h9
    clear hd hty hta hn
    by_cases hw : g.fs[q].ow = t
    ·have hwb : (g.fs[q].ow == t) = true := by simpa using hw
     have HT2 : Hid (pkN (fun x => decide (x.ow = t)) 0 (g.fs.take (q + 1)) = pkN (fun x => decide (x.ow = t)) 0 (g.fs.take q) ++ [(q : Int)]) := by show _ = _; rw [HT.out, if_pos (by simpa using hw)]
     clear HT hw
     generalize g.fs[q] = y at *
     go_wp2_with (at_builtin; go_must (refine wpList_append_int (v := u5) rfl (.tmp 27) (.tmp 29) rfl w0.heap.size rfl rfl (HO1.out.later (made_below _ _ _)) (one_int w1 q _ rfl) (by omega) (Nat.le_trans HB1.out.size (made_below _ _ _).size) ?_; intro v5 w5 ho5 hg5; have hB5 := (bbox HB1.out _).trans (grown_below11 (HO1.out.later (made_below _ _ _)) hg5 (Nat.le_refl _) (Nat.le_trans HB1.out.size (made_below _ _ _).size))))
     go_roundw
     case rel => exact ⟨q + 1, by omega, by go_num, by rw [HNb.out, if_pos rfl, HT2.out]; exact ho5, hB5⟩
     case measure => simp [intOf]; omega
    ·have hwb : (g.fs[q].ow == t) = false := by simpa using hw
     have HT2 : Hid (pkN (fun x => decide (x.ow = t)) 0 (g.fs.take (q + 1)) = pkN (fun x => decide (x.ow = t)) 0 (g.fs.take q)) := by show _ = _; rw [HT.out, if_neg (by simpa using hw), List.append_nil]
     clear HT hw
     generalize g.fs[q] = y at *
     go_wp2_with fail
     go_roundw
     case rel => exact ⟨q + 1, by omega, by go_num, by rw [HNb.out, if_pos rfl, HT2.out]; exact HO1.out, HB1.out⟩
     case measure => simp [intOf]; omega
  ·have hqi : ¬ (q : Int) < (g.fs.length : Int) := by omega
   have HE : Hid ((if numB t g.ts.length = true then pkN (fun x => decide (x.ow = t)) 0 (g.fs.take q) else []) = fldN g t) := by show _ = _; rw [List.take_of_length_le (by omega)]; rfl
   go_wp2_with fail
   go_ret
   exact ⟨_, rfl, by rw [← HE.out]; exact HO.out.mono HB0.out.size, bstep HB0.out HB.out⟩

set_option maxHeartbeats 4000000 in
set_option maxRecDepth 100000 in
theorem refMethods_any {g : Img} {t : Int} {w : World} (hg : Im w g) (hi : imB g = true) :
  Calls Tryz.prog 52 #[imV g, .int .i64 t] w fun e w' => ∃ v, e = .returned v ∧ OwnI w' w.heap.size v (mtdN g t) ∧ Below w.heap.size w w' := by
 obtain ⟨w0, hw0⟩ : ∃ W, W = w.alloc (.cells (imC g) 26) := ⟨_, rfl⟩
 have HW0 : Hid (w0 = _) := hw0
 obtain ⟨hb0, hgb⟩ := GB.made hg hw0
 have HB0 : Hid (Below w.heap.size w w0) := hb0
 have HG : Hid (GB w0 w.heap.size g) := hgb
 have hln := im_len hi
 have HTh : Hid (∀ W, Below w0.heap.size w0 W → Calls Tryz.prog 59 #[.agg (imC g), .int .i64 t] W fun e w' => e = .returned (.bool (numB t g.ts.length)) ∧ Below W.heap.size W w') := fun W hW => refThere_any t (hgb.im.later hW)
 have HC4 : Hid (∀ W, Below w0.heap.size w0 W → W.cell? ⟨w.heap.size, 0, none⟩ = some (.slice g.ta g.ts.length g.tc) ∧ W.cell? ⟨w.heap.size, 1, none⟩ = some (.slice g.fa g.fs.length g.fc) ∧ W.cell? ⟨w.heap.size, 2, none⟩ = some (.slice g.ma g.ms.length g.mc) ∧ W.cell? ⟨w.heap.size, 3, none⟩ = some (.int .i64 g.en)) := fun W hW => (hgb.later hW).cells
 unfold imC at HW0 HTh
 clear hw0 hb0 hgb hg hi
 unfold imV
 go_enter Tryz.func52, Tryz.ntmps52
 go_wp2_with (rw [← HW0.out])
 go_loopw [5, 6] (fun lv z wr => ∃ q : Nat, q ≤ g.ms.length ∧ z = .int .i64 q ∧ Hid (OwnI wr w0.heap.size lv (if numB t g.ts.length = true then pkN (fun x => decide (x.ow = t)) 0 (g.ms.take q) else [])) ∧ Hid (Below w0.heap.size w0 wr)) (fun _ z _ => g.ms.length - (intOf z).toNat)
 case atStart => exact ⟨0, Nat.zero_le _, rfl, by show OwnI _ _ _ _; split <;> exact OwnI.nil _ _, Below.refl _ _⟩
 case round =>
  obtain ⟨q, hq, rfl, HO, HB⟩ := hrel
  obtain ⟨c0, c1, c2, c3⟩ := HC4.out wr HB.out
  by_cases hql : q < g.ms.length
  ·have hqi : (q : Int) < (g.ms.length : Int) := by omega
   go_wp2_with fail
   refine Calls.mono (HTh.out wr HB.out) ?_
   rintro e w1 ⟨rfl, hb1⟩
   have HB1 : Hid (Below w0.heap.size w0 w1) := bstep HB.out hb1
   have HO1 : Hid (OwnI w1 w0.heap.size u5 (if numB t g.ts.length = true then pkN (fun x => decide (x.ow = t)) 0 (g.ms.take q) else [])) := OwnI.later HO.out hb1
   clear hb1 c0 c1 c2 c3 HO HB
   cases hn : numB t g.ts.length with
   | false =>
    rw [hn] at HO1
    have HNb : Hid (numB t g.ts.length = false) := hn
    clear hn
    go_wp2_with fail
    go_roundw
    case rel => exact ⟨q + 1, by omega, by go_num, by rw [HNb.out]; exact HO1.out, HB1.out⟩
    case measure => simp [intOf]; omega
   | true =>
    rw [hn, if_pos rfl] at HO1
    have HNb : Hid (numB t g.ts.length = true) := hn
    have HT : Hid (pkN (fun x => decide (x.ow = t)) 0 (g.ms.take (q + 1)) = pkN (fun x => decide (x.ow = t)) 0 (g.ms.take q) ++ (if (fun x => decide (x.ow = t)) g.ms[q] = true then [(q : Int)] else [])) := pkN_take _ _ _ hql
    have hpl := pkN_len (fun x => decide (x.ow = t)) (g.ms.take q) 0
    rw [List.length_take] at hpl
    obtain ⟨tb, off, hta, h8, h9, hty⟩ := HG.out.md (by intro e; rw [e] at hql; simp at hql)
    obtain ⟨d1, hd⟩ := hty w1 HB1.out
    obtain ⟨k0, k1, k2, k3, k4, k5, k6, k7, k8, k9, k10, k11⟩ := (hd q hql).cells_M
    unfold maxLen at h9
    clear hd hty hta hn
    by_cases hw : g.ms[q].ow = t
    ·have hwb : (g.ms[q].ow == t) = true := by simpa using hw
     have HT2 : Hid (pkN (fun x => decide (x.ow = t)) 0 (g.ms.take (q + 1)) = pkN (fun x => decide (x.ow = t)) 0 (g.ms.take q) ++ [(q : Int)]) := by show _ = _; rw [HT.out, if_pos (by simpa using hw)]
     clear HT hw
     generalize g.ms[q] = y at *
     go_wp2_with (at_builtin; go_must (refine wpList_append_int (v := u5) rfl (.tmp 27) (.tmp 29) rfl w0.heap.size rfl rfl (HO1.out.later (made_below _ _ _)) (one_int w1 q _ rfl) (by omega) (Nat.le_trans HB1.out.size (made_below _ _ _).size) ?_; intro v5 w5 ho5 hg5; have hB5 := (bbox HB1.out _).trans (grown_below11 (HO1.out.later (made_below _ _ _)) hg5 (Nat.le_refl _) (Nat.le_trans HB1.out.size (made_below _ _ _).size))))
     go_roundw
     case rel => exact ⟨q + 1, by omega, by go_num, by rw [HNb.out, if_pos rfl, HT2.out]; exact ho5, hB5⟩
     case measure => simp [intOf]; omega
    ·have hwb : (g.ms[q].ow == t) = false := by simpa using hw
     have HT2 : Hid (pkN (fun x => decide (x.ow = t)) 0 (g.ms.take (q + 1)) = pkN (fun x => decide (x.ow = t)) 0 (g.ms.take q)) := by show _ = _; rw [HT.out, if_neg (by simpa using hw), List.append_nil]
     clear HT hw
     generalize g.ms[q] = y at *
     go_wp2_with fail
     go_roundw
     case rel => exact ⟨q + 1, by omega, by go_num, by rw [HNb.out, if_pos rfl, HT2.out]; exact HO1.out, HB1.out⟩
     case measure => simp [intOf]; omega
  ·have hqi : ¬ (q : Int) < (g.ms.length : Int) := by omega
   have HE : Hid ((if numB t g.ts.length = true then pkN (fun x => decide (x.ow = t)) 0 (g.ms.take q) else []) = mtdN g t) := by show _ = _; rw [List.take_of_length_le (by omega)]; rfl
   go_wp2_with fail
   go_ret
   exact ⟨_, rfl, by rw [← HE.out]; exact HO.out.mono HB0.out.size, bstep HB0.out HB.out⟩
end Go.Proofs.YthpmpdpfnlecmaaGreat
