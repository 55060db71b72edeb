
/- The writer: number, row, way, nothing. -/
import Derived.Test.YtpgkjfjooogfmaaDoorPlaces7
namespace Go.Proofs.YtpgkjfjooogfmaaDoor
set_option linter.unusedVariables false
set_option linter.unusedSimpArgs false
open Go.RowKit
attribute [local go_sem ↓] Go.wp_at_zero Go.wp_at_succ

/-- Blocks but one, that hold no bytes, stand. -/
structure Kp (wb : Nat) (w w' : World) : Prop where
  size : w.heap.size ≤ w'.heap.size
  stand : ∀ k C t, k ≠ wb → At w k C t → t ≠ 5 → At w' k C t
theorem Kp.refl (wb : Nat) (w : World) : Kp wb w w := ⟨Nat.le_refl _, fun _ _ _ _ h _ => h⟩
theorem Kp.trans {wb : Nat} {a b c : World} (h : Kp wb a b) (k : Kp wb b c) : Kp wb a c := ⟨Nat.le_trans h.size k.size, fun i C t hi hA ht => k.stand i C t hi (h.stand i C t hi hA ht) ht⟩
theorem Kp.of_below {wb : Nat} {w w' : World} (h : Below w.heap.size w w') : Kp wb w w' := ⟨h.size, fun _ _ _ _ hA _ => hA.later h⟩
theorem OwnI.kp {w w' : World} {base wb : Nat} {v : Value} {l : List Int} (h : OwnI w base v l) (hk : Kp wb w w') (hne : v.ownBlock ≠ some wb) : OwnI w' base v l :=
  h.of_block fun k hv _ => by
    obtain ⟨C, hC⟩ := h.typed k hv
    have := hk.stand k C _ (fun e => hne (e ▸ hv)) hC (by decide)
    unfold At at hC this
    rw [hC, this]

/-- In block wb lies a writer that has written these bytes. -/
def WrS (w : World) (wb base : Nat) (pv : Value) (xs : List UInt8) : Prop := base ≤ wb ∧ ∃ bv, At w wb #[bv, pv] 53 ∧ Own w base 5 bv xs
theorem WrS.later {w w' : World} {wb base : Nat} {pv : Value} {xs : List UInt8} (h : WrS w wb base pv xs) (hb : Below w.heap.size w w') : WrS w' wb base pv xs := by
  obtain ⟨h0, bv, h1, h2⟩ := h
  exact ⟨h0, bv, h1.later hb, h2.later hb⟩
theorem WrS.drewN {w : World} {wb base : Nat} {pv : Value} {xs : List UInt8} (h : WrS w wb base pv xs) (n : Nat) : WrS (w.drewN n) wb base pv xs := h.later (Below.drewN (Below.refl _ _) n)
theorem Own.shape {w : World} {base : Nat} {e : TypeId} {v : Value} {xs : List UInt8} (h : Own w base e v xs) : ∃ a c, v = .slice a xs.length c ∧ xs.length ≤ c ∧ c ≤ maxLen := by
  obtain ⟨a, c, h1, h2, h3, _⟩ := h.bs
  exact ⟨a, c, h1, h2, h3⟩
theorem Own.ne {w : World} {base g : Nat} {v : Value} {xs : List UInt8} {C : Array Value} {t : TypeId} (ho : Own w base 5 v xs) (h : At w g C t) (ht : t ≠ 5) : v.ownBlock ≠ some g := by
  intro e
  obtain ⟨C', hC⟩ := ho.v.typed g e
  unfold At at h
  rw [h] at hC
  simp only [Option.some.injEq, Obj.cells.injEq] at hC
  exact ht hC.2.1

theorem wide_of {n : Nat} (h : n = 1 ∨ n = 2 ∨ n = 4 ∨ n = 8) : wideB (n : Int) = true ∧ 1 ≤ n ∧ n ≤ 8 := by
  rcases h with rfl | rfl | rfl | rfl <;> exact ⟨by decide, by omega, by omega⟩

set_option maxHeartbeats 2000000 in
theorem number_any {w : World} {wb base : Nat} {pv : Value} {xs : List UInt8} (h : WrS w wb base pv xs) (hbase : base ≤ w.heap.size) (hx : xs.length ≤ 100000) (x : Int) (n : Nat) (hn : n = 1 ∨ n = 2 ∨ n = 4 ∨ n = 8) :
    Calls Tryd.prog 23 #[.pointer (some ⟨wb, 0, none⟩), .int .i64 x, .int .i64 (n : Int)] w fun e w' => e = .returned (.tuple #[]) ∧ WrS w' wb base pv (xs ++ leL (u64n x) n) ∧ Below base w w' ∧ Kp wb w w' := by
  obtain ⟨hwb, bv, hA, hO⟩ := h
  obtain ⟨hw, hn1, hn8⟩ := wide_of hn
  have hu := u64n_wrap x
  have HP : Hid (Calls Tryd.prog 37 #[.slice none 0 0, .int .u64 (u64n x : Int), .int .i64 (n : Int)] w fun e w' => e = .returned (.tuple #[.slice (some ⟨w.heap.size, 0, none⟩) n n, .int .i64 0]) ∧
      w' = w.alloc (.cells (u8s (leL (u64n x) n)).toArray 5)) := by
    have := put_yes (Bs.nil w) (by simp) (u64n x) n (u64n_lt x) hw hn1 hn8
    simp at this
    exact this
  have hll := leL_length (u64n x) n
  have HL : Hid (Bs (w.alloc (.cells (u8s (leL (u64n x) n)).toArray 5)) (.slice (some ⟨w.heap.size, 0, none⟩) n n) (leL (u64n x) n)) := by
    have := Bs.made w (leL (u64n x) n) 5 (by rw [hll]; unfold maxLen; omega)
    rw [hll] at this
    exact this
  have hbx : Below w.heap.size w (w.alloc (.cells (u8s (leL (u64n x) n)).toArray 5)) := (Below.refl _ _).alloc (Nat.le_refl _) _
  have hA1 := hA.later hbx
  have HO1 : Hid (Own (w.alloc (.cells (u8s (leL (u64n x) n)).toArray 5)) base 5 bv xs) := hO.later hbx
  obtain ⟨ba, bc, rfl, hb1, hb2⟩ := hO.shape
  have tc := hA1.cell
  unfold maxLen at hb2
  clear hn hw
  generalize leL (u64n x) n = ys at *
  generalize u64n x = un at *
  go_enter Tryd.func23, Tryd.ntmps23
  go_wp2_with fail
  refine Calls.mono HP.out ?_
  rintro e wz ⟨rfl, hz⟩
  subst wz
  clear HP
  go_wp2_with (at_builtin; go_must (refine wpList_append_bs rfl _ _ _ rfl base 5 Tryd.underlying30 Tryd.infoU8 rfl rfl HO1.out HL.out (by rw [hll]; omega) (by simp; omega) ?_))
  intro v2 w2 ho2 hg2
  have hA2 : At w2 wb #[.slice ba xs.length bc, pv] 53 := by
    have hl := hA1.lt
    have hne := HO1.out.ne hA1 (by decide)
    unfold At at hA1 ⊢
    rw [hg2.block wb hl (fun e => hne e.symm)]; exact hA1
  have HK : Hid (Below base w w2 ∧ Kp wb w w2) := by
    have h1 : Below base w w2 := (hbx.mono hbase).trans ⟨hg2.os, hg2.tape, hg2.output, hg2.size, fun k hk => hg2.block k (by simp; omega) (by intro e; have := (HO1.out.block k e.symm).1; omega)⟩
    refine ⟨h1, h1.size, fun k C t hk hC ht => ?_⟩
    have hC1 := hC.later hbx
    have hne := HO1.out.ne hC1 ht
    have hlt := hC1.lt
    unfold At at hC1 ⊢
    rw [hg2.block k hlt (fun e => hne e.symm)]; exact hC1
  obtain ⟨va, vc, rfl, hv1, hv2⟩ := ho2.shape
  have HO2 : Hid (Own w2 base 5 (.slice va (xs ++ ys).length vc) (xs ++ ys)) := ho2
  have HA2 : Hid (At w2 wb #[.slice ba xs.length bc, pv] 53) := hA2
  have sc := hA2.cell
  have sm := hA2.melt
  clear tc hA hA1 hA2 ho2 hO hv1 hv2 hg2 HO1 HL hbx
  generalize hzz : (xs ++ ys).length = zl at *
  go_wp2
  go_end0
  have hA3 := HA2.out.set 0 (.slice va zl vc)
  refine ⟨rfl, ⟨hwb, .slice va zl vc, by simpa using hA3, ?_⟩, HK.out.1.setCell hwb _, HK.out.2.trans ⟨by simp [World.setCell], fun k C t hk hC _ => hC.other hk _⟩⟩
  have hne := HO2.out.ne HA2.out (by decide)
  have := HO2.out.v.of_block (w' := w2.setCell ⟨wb, 0, none⟩ (.slice va zl vc)) (fun k hk _ => Below.heap_setCell _ _ _ _ (fun (e : k = wb) => hne (by rw [← e]; exact hk)))
  exact this.own

theorem nothing_any (wb : Nat) (x n : Int) (w : World) :
    Calls Tryd.prog 34 #[.pointer (some ⟨wb, 0, none⟩), .int .i64 x, .int .i64 n] w fun e w' => e = .returned (.tuple #[]) ∧ w' = w := by
  go_enter Tryd.func34, Tryd.ntmps34
  go_wp2
  go_end0
  exact ⟨rfl, rfl⟩

theorem row_any {w : World} {wb base : Nat} {pv : Value} {xs : List UInt8} (h : WrS w wb base pv xs) (hbase : base ≤ w.heap.size) (hx : xs.length ≤ 100000) (x : Int) (h0 : 0 ≤ x) (h1 : x ≤ 1000) :
    Calls Tryd.prog 36 #[.pointer (some ⟨wb, 0, none⟩), .int .i64 x, .int .i64 2] w fun e w' => e = .returned (.tuple #[]) ∧ WrS w' wb base pv (xs ++ leL (u64n (x + 1)) 2) ∧ Below base w w' ∧ Kp wb w w' := by
  have HN : Hid (Calls Tryd.prog 23 #[.pointer (some ⟨wb, 0, none⟩), .int .i64 (x + 1), .int .i64 2] w fun e w' => e = .returned (.tuple #[]) ∧ WrS w' wb base pv (xs ++ leL (u64n (x + 1)) 2) ∧ Below base w w' ∧ Kp wb w w') := number_any h hbase hx (x + 1) 2 (by omega)
  go_enter Tryd.func36, Tryd.ntmps36
  go_wp2_with fail
  refine Calls.mono HN.out ?_
  rintro e w1 ⟨rfl, h1, h2, h3⟩
  go_wp2
  go_end0
  exact ⟨rfl, h1, h2, h3⟩

set_option maxHeartbeats 2000000 in
theorem way_any {w : World} {wb base pg pn pc : Nat} {xs : List UInt8} (h : WrS w wb base (.slice (some ⟨pg, 0, none⟩) pn pc) xs) (hbase : base ≤ w.heap.size) (hx : xs.length ≤ 100000) (k pl : Nat) (hk : k < pn) (hpn : pn ≤ 1000) (hpl : pl ≤ 100000) (hc : w.cell? ⟨pg, k, none⟩ = some (.int .i64 (pl : Int))) :
    Calls Tryd.prog 35 #[.pointer (some ⟨wb, 0, none⟩), .int .i64 (k : Int), .int .i64 2] w fun e w' => e = .returned (.tuple #[]) ∧ WrS w' wb base (.slice (some ⟨pg, 0, none⟩) pn pc) (xs ++ leL (u64n ((pl : Int) - (xs.length : Int) - 2)) 2) ∧ Below base w w' ∧ Kp wb w w' := by
  have HN : Hid (∀ m, Calls Tryd.prog 23 #[.pointer (some ⟨wb, 0, none⟩), .int .i64 ((pl : Int) - (xs.length : Int) - 2), .int .i64 2] (w.drewN m) fun e w' => e = .returned (.tuple #[]) ∧ WrS w' wb base (.slice (some ⟨pg, 0, none⟩) pn pc) (xs ++ leL (u64n ((pl : Int) - (xs.length : Int) - 2)) 2) ∧ Below base w w' ∧ Kp wb w w') := by
    intro m
    refine (number_any (h.drewN m) hbase hx ((pl : Int) - (xs.length : Int) - 2) 2 (by omega)).mono ?_
    rintro e w' ⟨rfl, h1, h2, h3⟩
    exact ⟨rfl, h1, (Below.drewN (Below.refl _ _) m).trans h2, (Kp.of_below (Below.drewN (Below.refl _ _) m)).trans h3⟩
  obtain ⟨hwb, bv, hA, hO⟩ := h
  obtain ⟨ba, bc, rfl, hb1, hb2⟩ := hO.shape
  have tc := hA.cell
  unfold maxLen at hb2
  clear hA hO
  have hi0 : (0 : Int) ≤ (k : Int) := by omega
  have hi1 : (k : Int) < (pn : Int) := by omega
  have hw1 : IntKind.i64.wrap ((pl : Int) - (xs.length : Int)) = (pl : Int) - (xs.length : Int) := by simp [IntKind.wrap, IntKind.signed, IntKind.bits]; omega
  have hw2 : IntKind.i64.wrap ((pl : Int) - (xs.length : Int) - 2) = (pl : Int) - (xs.length : Int) - 2 := by simp [IntKind.wrap, IntKind.signed, IntKind.bits]; omega
  go_enter Tryd.func35, Tryd.ntmps35
  go_wp2_with fail
  go_region_with (go_at_call 23; refine Calls.mono (HN.out 1) ?_; rintro e w1 ⟨rfl, h1, h2, h3⟩)
  all_goals go_wp2
  all_goals go_end0
  all_goals exact ⟨rfl, h1, h2, h3⟩

end Go.Proofs.YtpgkjfjooogfmaaDoor
