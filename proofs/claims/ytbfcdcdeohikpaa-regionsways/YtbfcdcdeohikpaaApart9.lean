
/- Ways: apart, mayEnter, mayLeave, Pass, Leave. -/
import Derived.Test.YtbfcdcdeohikpaaChainF9
import Derived.Test.YtbfcdcdeohikpaaSame9
namespace Go.Proofs.Ytbfcdcdeohikpaa
set_option linter.unusedVariables false
set_option linter.unusedSimpArgs false
open Go.RowKit
attribute [local go_sem ↓] Go.wp_at_zero Go.wp_at_succ

/-- Whether the way may come into a region at an instruction; whether leave may go out of it. -/
def opB (l : List Cl) (n : Int) (r : Sp) : Bool := decide (r.2 = 1) && (match l[r.1.toNat]? with
  | some c => decide (c.tf = n)
  | none => false)
def lvB (l : List Cl) (r : Sp) : Bool := match l[r.1.toNat]? with
  | some c => decide (r.2 = 1) || (decide (r.2 = 2) && (decide (c.k = 1) || decide (c.k = 2)))
  | none => false
theorem opB_eq {l : List Cl} {n : Int} {r : Sp} {k : Nat} (hk : k < l.length) (hr : r.1 = (k : Int)) : opB l n r = (decide (r.2 = 1) && decide (l[k].tf = n)) := by
  unfold opB; rw [hr, Int.toNat_natCast, List.getElem?_eq_getElem hk]
theorem lvB_eq {l : List Cl} {r : Sp} {k : Nat} (hk : k < l.length) (hr : r.1 = (k : Int)) : lvB l r = (decide (r.2 = 1) || (decide (r.2 = 2) && (decide (l[k].k = 1) || decide (l[k].k = 2)))) := by
  unfold lvB; rw [hr, Int.toNat_natCast, List.getElem?_eq_getElem hk]
/-- A region of a clause. -/
def ValR (l : List Cl) (r : Sp) : Prop := ∃ k, k < l.length ∧ r.1 = (k : Int) ∧ (r.2 = 1 ∨ r.2 = 2 ∨ r.2 = 3)
theorem chain_val (l : List Cl) (n : Int) : ∀ r ∈ chR l n, ValR l r := by
  intro r hr
  unfold chR at hr
  obtain ⟨x, hx, rfl⟩ := List.mem_map.1 hr
  obtain ⟨hx, _⟩ := cmp_mem hx
  obtain ⟨k, hk, j, hj, rfl, _⟩ := lkL_mem hx
  have := spans_len l[k]
  refine ⟨k, hk, by simp [lkRg], ?_⟩
  simp only [lkRg]
  omega
theorem chain_len {m : Int} {l : List Cl} (h : RightL m l) (n : Int) : (chR l n).length ≤ 18 := by
  have h1 := lkL_len n l 0
  have h6 := h.1
  unfold chR
  rw [List.length_map, ← h.dd n]
  by_cases h0 : 1 ≤ (linkL l n).length
  · have := dd_length_lt (linkL l n) _ h0 (Nat.le_refl _)
    rw [List.take_length] at this
    unfold linkL at this ⊢
    omega
  · have : linkL l n = [] := List.eq_nil_of_length_eq_zero (by omega)
    rw [this]; simp [dd]

/-- What two chains have ahead of all that they share. -/
def ApR (la lb : List Sp) (i k : Nat) : Prop := i ≤ la.length ∧ k ≤ lb.length ∧ la.drop i = lb.drop k ∧ (i = 0 ∨ k = 0 ∨ la[i - 1]? ≠ lb[k - 1]?)
theorem ApR.min {la lb : List Sp} {i k i' k' : Nat} (h : ApR la lb i k) (hi : i' ≤ la.length) (hk : k' ≤ lb.length) (hd : la.drop i' = lb.drop k') : i ≤ i' ∧ k ≤ k' := by
  obtain ⟨h1, h2, h3, h4⟩ := h
  have e1 := congrArg List.length h3
  have e2 := congrArg List.length hd
  simp only [List.length_drop] at e1 e2
  rcases Nat.lt_or_ge i' i with g | g
  · exfalso
    rcases h4 with h4 | h4 | h4
    · omega
    · omega
    · apply h4
      have := congrArg (fun t => t[i - 1 - i']?) hd
      simp only [List.getElem?_drop] at this
      rw [show i' + (i - 1 - i') = i - 1 by omega, show k' + (i - 1 - i') = k - 1 by omega] at this
      exact this
  · exact ⟨g, by omega⟩
/-- Whether a way may go on. -/
def WayR (l : List Cl) (out : Bool) (n : Int) (la lb : List Sp) : Prop := ∃ i k, i ≤ la.length ∧ k ≤ lb.length ∧ la.drop i = lb.drop k ∧ (∀ x ∈ lb.take k, opB l n x = true) ∧ (if out = true then ∀ x ∈ la.take i, lvB l x = true else i = 0)
theorem mem_take_le {α : Type} {l : List α} {a b : Nat} (h : a ≤ b) {x : α} (hx : x ∈ l.take a) : x ∈ l.take b := by
  rw [← Nat.min_eq_left h, ← List.take_take] at hx
  exact List.mem_of_mem_take hx
theorem ApR.pass {l : List Cl} {n : Int} {la lb : List Sp} {i k : Nat} (h : ApR la lb i k) : (decide (i = 0) && (lb.take k).all (opB l n)) = true ↔ WayR l false n la lb := by
  simp only [Bool.and_eq_true, decide_eq_true_eq, List.all_eq_true]
  constructor
  · rintro ⟨h0, ha⟩
    exact ⟨i, k, h.1, h.2.1, h.2.2.1, ha, by simpa using h0⟩
  · rintro ⟨i', k', h1, h2, h3, h4, h5⟩
    obtain ⟨g1, g2⟩ := h.min h1 h2 h3
    simp at h5
    exact ⟨by omega, fun x hx => h4 x (mem_take_le g2 hx)⟩
theorem ApR.leave {l : List Cl} {n : Int} {la lb : List Sp} {i k : Nat} (h : ApR la lb i k) : ((la.take i).all (lvB l) && (lb.take k).all (opB l n)) = true ↔ WayR l true n la lb := by
  simp only [Bool.and_eq_true, List.all_eq_true]
  constructor
  · rintro ⟨h0, ha⟩
    exact ⟨i, k, h.1, h.2.1, h.2.2.1, ha, by simpa using h0⟩
  · rintro ⟨i', k', h1, h2, h3, h4, h5⟩
    obtain ⟨g1, g2⟩ := h.min h1 h2 h3
    rw [if_pos rfl] at h5
    exact ⟨fun x hx => h5 x (mem_take_le g1 hx), fun x hx => h4 x (mem_take_le g2 hx)⟩

theorem Try.sizeRegion : (Try.prog.info? 46).map (·.size) = some 2 := by kernel_rfl
theorem eq_rg (W : World) (a b : Sp) : (binOp .eql 46 (.agg #[.int .i64 a.1, .int .i64 a.2]) (.agg #[.int .i64 b.1, .int .i64 b.2])).run Try.prog W = .ok (.bool (decide (a = b))) W := by
  obtain ⟨a1, a2⟩ := a
  obtain ⟨b1, b2⟩ := b
  have : decide ((a1, a2) = (b1, b2)) = (a1 == b1 && a2 == b2) := by rw [Bool.eq_iff_iff]; simp
  rw [this]
  simp [go_sem]
  cases h1 : (a1 == b1) <;> cases h2 : (a2 == b2) <;> simp_all [go_sem]

/-- A slice's length. -/
def lenOf9 : Value → Nat
  | .slice _ n _ => n
  | _ => 0

set_option maxHeartbeats 4000000 in
theorem apart_some {a b : Option Addr} {ca cb : Nat} {la lb : List Sp} {w : World} (ha : Es spE w (.slice a la.length ca) la) (hb : Es spE w (.slice b lb.length cb) lb) (hna : la.length ≤ 1000) (hnb : lb.length ≤ 1000) :
    Calls Try.prog 47 #[.slice a la.length ca, .slice b lb.length cb] w fun e w' => ∃ i k, e = .returned (.tuple #[.slice a i ca, .slice b k cb]) ∧ ApR la lb i k ∧ Below w.heap.size w w' := by
  have HEa : Hid (Es spE w (.slice a la.length ca) la) := ha
  have HEb : Hid (Es spE w (.slice b lb.length cb) lb) := hb
  clear ha hb
  go_enter Try.func47, Try.ntmps47
  go_wp2_with fail
  go_loopw [0, 1] (fun x y wr => ∃ i k : Nat, i ≤ la.length ∧ k ≤ lb.length ∧ x = .slice a i ca ∧ y = .slice b k cb ∧ Below w.heap.size w wr ∧ Hid (la.drop i = lb.drop k)) (fun x _ _ => lenOf9 x)
  case atStart => exact ⟨la.length, lb.length, Nat.le_refl _, Nat.le_refl _, rfl, rfl, Below.refl _ _, by show _ = _; rw [List.drop_length, List.drop_length]⟩
  case round =>
    obtain ⟨i, k, hi, hk, rfl, rfl, hB, HD⟩ := hrel
    have HBL : Hid (Below w.heap.size w wr) := hB
    cases i with
    | zero =>
      clear hB
      go_wp2_with fail
      go_quiet (fail)
      go_wp2_with fail
      go_ret2
      exact ⟨0, k, rfl, ⟨hi, hk, HD.out, .inl rfl⟩, bstep HBL.out (Below.drewN (Below.refl _ _) _)⟩
    | succ i =>
      cases k with
      | zero =>
        clear hB
        have n1 : (0 : Int) < (i : Int) + 1 := by omega
        go_wp2_with fail
        go_quiet (fail)
        go_wp2_with fail
        go_ret2
        exact ⟨i + 1, 0, rfl, ⟨hi, hk, HD.out, .inr (.inl rfl)⟩, bstep HBL.out (Below.drewN (Below.refl _ _) _)⟩
      | succ k =>
        have ne1 : la ≠ [] := by intro e; subst e; simp at hi
        have ne2 : lb ≠ [] := by intro e; subst e; simp at hk
        obtain ⟨ba, oa, ca', e1, _, hca, hba, ha⟩ := HEa.out.parts ne1
        obtain ⟨bb, ob, cb', e2, _, hcb, hbb, hb⟩ := HEb.out.parts ne2
        simp only [Value.slice.injEq] at e1 e2
        obtain ⟨rfl, _, rfl⟩ := e1
        obtain ⟨rfl, _, rfl⟩ := e2
        unfold maxLen at hca hcb
        obtain ⟨c0, c1⟩ := ((ha i (by omega)).below hB hba).two
        obtain ⟨d0, d1⟩ := ((hb k (by omega)).below hB hbb).two
        have z2 : spE.size = 2 := rfl
        rw [z2] at c0 c1 d0 d1
        have HN : Hid (la[i] ≠ lb[k] → la[i + 1 - 1]? ≠ lb[k + 1 - 1]?) := fun hne he => by
          simp only [Nat.add_sub_cancel] at he
          rw [List.getElem?_eq_getElem (l := la) (i := i) (by omega), List.getElem?_eq_getElem (l := lb) (i := k) (by omega)] at he
          exact hne (Option.some.inj he)
        have HY : Hid (la[i] = lb[k] → la.drop i = lb.drop k) := fun he => by
          rw [List.drop_eq_getElem_cons (l := la) (i := i) (by omega), List.drop_eq_getElem_cons (l := lb) (i := k) (by omega), he, HD.out]
        have heq0 := fun W => eq_rg W la[i] lb[k]
        have hs1 : ∀ (W : World) (kk : IntKind), (Instr.slice 34 (.slice (some ⟨ba, oa, none⟩) (i + 1) ca) none (some (.int kk (i : Int))) none).run Try.prog W = .ok (.slice (some ⟨ba, oa, none⟩) i ca) W := fun W kk => by
          have h1 := (slice_toE (P := Try.prog) HEa.out (i + 1) hi 34 46 Try.underlying34 Try.sizeRegion).2
          have hl : (la.take (i + 1)).length = i + 1 := by rw [List.length_take]; omega
          have h2 := (slice_toE (P := Try.prog) (l := la.take (i + 1)) (by rw [hl]; exact h1) i (by omega) 34 46 Try.underlying34 Try.sizeRegion).1 W kk
          rw [hl] at h2
          exact h2
        have hs2 : ∀ (W : World) (kk : IntKind), (Instr.slice 34 (.slice (some ⟨bb, ob, none⟩) (k + 1) cb) none (some (.int kk (k : Int))) none).run Try.prog W = .ok (.slice (some ⟨bb, ob, none⟩) k cb) W := fun W kk => by
          have h1 := (slice_toE (P := Try.prog) HEb.out (k + 1) hk 34 46 Try.underlying34 Try.sizeRegion).2
          have hl : (lb.take (k + 1)).length = k + 1 := by rw [List.length_take]; omega
          have h2 := (slice_toE (P := Try.prog) (l := lb.take (k + 1)) (by rw [hl]; exact h1) k (by omega) 34 46 Try.underlying34 Try.sizeRegion).1 W kk
          rw [hl] at h2
          exact h2
        have f1 : IntKind.i64.wrap (i : Int) = (i : Int) := by simp [IntKind.wrap, IntKind.bits, IntKind.signed]; omega
        have f2 : IntKind.i64.wrap (k : Int) = (k : Int) := by simp [IntKind.wrap, IntKind.bits, IntKind.signed]; omega
        have n1 : (0 : Int) < (i : Int) + 1 := by omega
        have n2 : (0 : Int) < (k : Int) + 1 := by omega
        have n3 : (0 : Int) ≤ (i : Int) := by omega
        have n4 : (0 : Int) ≤ (k : Int) := by omega
        have n5 : (i : Int) < (i : Int) + 1 := by omega
        have n6 : (k : Int) < (k : Int) + 1 := by omega
        clear ha hb hB ne1 ne2 z2
        generalize la[i] = x at *
        generalize lb[k] = y at *
        by_cases hxy : x = y
        · have heq : ∀ W : World, (binOp .eql 46 (.agg #[.int .i64 x.1, .int .i64 x.2]) (.agg #[.int .i64 y.1, .int .i64 y.2])).run Try.prog W = .ok (.bool true) W := fun W => by rw [heq0, decide_eq_true hxy]
          have HS : Hid (la.drop i = lb.drop k) := HY.out hxy
          clear heq0 hxy
          go_wp2_with fail
          go_quiet (fail)
          go_wp2_with fail
          go_quiet (fail)
          go_wp2_with fail
          go_roundw
          case rel => exact ⟨i, k, by omega, by omega, rfl, rfl, bstep HBL.out (Below.drewN (Below.drewN (Below.refl _ _) _) _), HS.out⟩
          case measure => simp [lenOf9]
        · have heq : ∀ W : World, (binOp .eql 46 (.agg #[.int .i64 x.1, .int .i64 x.2]) (.agg #[.int .i64 y.1, .int .i64 y.2])).run Try.prog W = .ok (.bool false) W := fun W => by rw [heq0, decide_eq_false hxy]
          have HS : Hid (la[i + 1 - 1]? ≠ lb[k + 1 - 1]?) := HN.out hxy
          clear heq0 hxy
          go_wp2_with fail
          go_quiet (fail)
          go_wp2_with fail
          go_ret2
          exact ⟨i + 1, k + 1, rfl, ⟨hi, hk, HD.out, .inr (.inr HS.out)⟩, bstep HBL.out (Below.drewN (Below.refl _ _) _)⟩

theorem apart_any {va vb : Value} {la lb : List Sp} {w : World} (ha : Es spE w va la) (hb : Es spE w vb lb) (hna : la.length ≤ 1000) (hnb : lb.length ≤ 1000) :
    Calls Try.prog 47 #[va, vb] w fun e w' => ∃ i k a ca b cb, e = .returned (.tuple #[.slice a i ca, .slice b k cb]) ∧ ApR la lb i k ∧ Below w.heap.size w w' ∧ Es spE w' (.slice a i ca) (la.take i) ∧ Es spE w' (.slice b k cb) (lb.take k) := by
  obtain ⟨a, ca, rfl, _, _⟩ := ha.shape
  obtain ⟨b, cb, rfl, _, _⟩ := hb.shape
  refine (apart_some ha hb hna hnb).mono ?_
  rintro e w' ⟨i, k, rfl, hr, hB⟩
  refine ⟨i, k, a, ca, b, cb, rfl, hr, hB, ?_, ?_⟩
  · exact (slice_toE (P := Try.prog) (ha.later hB) i hr.1 34 46 Try.underlying34 Try.sizeRegion).2
  · exact (slice_toE (P := Try.prog) (hb.later hB) k hr.2.1 34 46 Try.underlying34 Try.sizeRegion).2

end Go.Proofs.Ytbfcdcdeohikpaa
