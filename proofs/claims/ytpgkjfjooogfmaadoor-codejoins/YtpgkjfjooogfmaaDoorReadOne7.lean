
/- What an operand is read by; readOne. -/
import Derived.Test.YtpgkjfjooogfmaaDoorRead7
import Derived.Test.YtpgkjfjooogfmaaDoorEncode7
namespace Go.Proofs.YtpgkjfjooogfmaaDoor
set_option linter.unusedVariables false
set_option linter.unusedSimpArgs false
open Go.RowKit
attribute [local go_sem ↓] Go.wp_at_zero Go.wp_at_succ

/-- The reader's way by kinds. -/
def pickR : Nat → Nat
  | 0 => 51
  | 1 => 52
  | 2 => 52
  | 5 => 54
  | 6 => 55
  | 7 => 55
  | _ => 53
def fnsR (wb : Nat) : Array Value := #[mfn (pickR 0) wb, mfn (pickR 1) wb, mfn (pickR 2) wb, mfn (pickR 3) wb, mfn (pickR 4) wb, mfn (pickR 5) wb, mfn (pickR 6) wb, mfn (pickR 7) wb, mfn (pickR 8) wb]
theorem fnsR_at (wb p : Nat) (h : p ≤ 8) : (fnsR wb)[p]? = some (.func (.func (pickR p)) #[.pointer (some ⟨wb, 0, none⟩)] #[]) := by
  rcases nine_cases h with rfl | rfl | rfl | rfl | rfl | rfl | rfl | rfl | rfl <;> rfl
theorem pickR_enter (p : Nat) (h : p ≤ 8) : ∀ args w, (callFunc (pickR p) args).run Tryd.prog w = .ok (.enter (pickR p) args) w := by
  have e0 := run_enter7 Tryd.func51 (by kernel_rfl) rfl
  have e1 := run_enter7 Tryd.func54 (by kernel_rfl) rfl
  have e2 := run_enter7 Tryd.func55 (by kernel_rfl) rfl
  have e3 := run_enter7 Tryd.func52 (by kernel_rfl) rfl
  have e4 := run_enter7 Tryd.func53 (by kernel_rfl) rfl
  rcases nine_cases h with rfl | rfl | rfl | rfl | rfl | rfl | rfl | rfl | rfl
  · exact e0
  · exact e3
  · exact e3
  · exact e4
  · exact e4
  · exact e1
  · exact e2
  · exact e2
  · exact e4

set_option maxHeartbeats 2000000 in
theorem byKindR_any (wb : Nat) (w : World) :
    Calls Tryd.prog 41 #[.pointer (some ⟨wb, 0, none⟩)] w fun e w' => e = .returned (.agg (fnsR wb)) ∧ Below w.heap.size w w' := by
  have hb0 : Below w.heap.size w (w.alloc (.cells (fnsR wb) 84)) := (Below.refl _ _).alloc (Nat.le_refl _) _
  go_enter Tryd.func41, Tryd.ntmps41
  go_wp2
  exact bodyPost_ret (v := .agg (fnsR wb)) (by simp [results, Tryd.results41, go_sem, fnsR, mfn, pickR]) rfl ⟨rfl, hb0⟩

/-- The operand that bytes at a place tell. -/
def valD (p : Nat) (bs : List UInt8) (a : Nat) : Int :=
  if p = 0 then 0 else if p = 1 ∨ p = 2 then sgnN (leN (seg bs a (widN p))) (widN p) else if p = 5 then ((a + 2 : Nat) : Int) + sgnN (leN (seg bs a 2)) 2 else if p = 6 ∨ p = 7 then (leN (seg bs a 2) : Int) - 1 else (leN (seg bs a (widN p)) : Int)

theorem read7_any {p : Nat} (hp : p ≤ 8) {w : World} {rr rb a : Nat} {bs : List UInt8} (h : Rr w rr rb bs a) (hl : bs.length ≤ 100000) :
    Calls Tryd.prog (pickR p) #[.pointer (some ⟨rr, 0, none⟩), .int .i64 (widN p : Int)] w fun e w' => GotN w w' rr rb bs a (widN p) (valD p bs a) e := by
  have hun : ∀ m : Nat, (m = 1 ∨ m = 2) → Calls Tryd.prog 53 #[.pointer (some ⟨rr, 0, none⟩), .int .i64 (m : Int)] w fun e w' => GotN w w' rr rb bs a m (leN (seg bs a m) : Int) e := by
    intro m hm
    refine (unsigned_any h m (by omega)).mono ?_
    rintro e w' ⟨hg, _⟩
    rw [i64n_small] at hg
    · exact hg
    · have h1 := leN_lt (seg bs a m)
      have h2 : (seg bs a m).length ≤ 2 := by simp [seg]; omega
      have h3 : 256 ^ (seg bs a m).length ≤ 256 ^ 2 := Nat.pow_le_pow_right (by omega) h2
      omega
  rcases nine_cases hp with rfl | rfl | rfl | rfl | rfl | rfl | rfl | rfl | rfl
  · exact nothingR_any h
  · exact signed4_any h
  · exact signed8_any h
  · exact hun 1 (by omega)
  · exact hun 1 (by omega)
  · exact wayR_any h hl
  · exact rowR_any h
  · exact rowR_any h
  · exact hun 2 (by omega)

/-- The instruction that bytes at a place tell: of a place the byte to which it leads. -/
def opA (bs : List UInt8) (a : Nat) : Int := ((bs.getD a 0).toNat : Int)
def insD (bs : List UInt8) (a : Nat) : Ins := (opA bs a, valD (opK (opA bs a)) bs (a + 1), 0, 0, 0, false)
def rdI (bs : List UInt8) (a : Nat) : Option Ins :=
  if 1 ≤ opA bs a ∧ opA bs a ≤ 75 then if a + 1 + widN (opK (opA bs a)) ≤ bs.length then if opK (opA bs a) = 5 ∨ rawB (insD bs a) = true then some (insD bs a) else none else none else none

theorem seg_one7 (bs : List UInt8) (a : Nat) (h : a < bs.length) : leN (seg bs a 1) = (bs.getD a 0).toNat := by
  rw [seg_one bs a h, List.getD_eq_getElem?_getD, List.getElem?_eq_getElem h]
  simp [leN]

theorem only_below {rb : Nat} {w w1 w' : World} (h : Only rb w w1) (hb : Below w.heap.size w1 w') : Only rb w w' :=
  ⟨hb.os.trans h.os, hb.tape.trans h.tape, hb.output.trans h.output, Nat.le_trans h.size hb.size, fun k hk hne => (hb.block k hk).trans (h.block k hk hne)⟩

/-- What readOne leaves. -/
structure OneR (w w' : World) (rr rb : Nat) (bs : List UInt8) (a : Nat) (e : Ending) : Prop where
  yes : ∀ x, rdI bs a = some x → e = .returned (.tuple #[iv x, .int .i64 0]) ∧ Rr w' rr rb bs (a + 1 + opw x)
  no : rdI bs a = none → ∃ er, e = .returned (.tuple #[iv zeroI, .int .i64 er]) ∧ er ≠ 0
  only : Only rb w w'

set_option maxHeartbeats 4000000 in
set_option maxRecDepth 100000 in
theorem readOne_any {w : World} {rr rb a : Nat} {bs : List UInt8} (h : Rr w rr rb bs a) (hl : bs.length ≤ 100000) (ha : a < bs.length) (hW : Wd w) (hrb0 : 0 < rb) :
    Calls Tryd.prog 44 #[.pointer (some ⟨rr, 0, none⟩), .agg (fnsR rr)] w fun e w' => OneR w w' rr rb bs a e := by
  have hrb := h.rd.lt
  have hrrl := h.box.lt
  have hb0 : Below w.heap.size w (w.alloc (.cells (fnsR rr) 84)) := (Below.refl _ _).alloc (Nat.le_refl _) _
  have hbA : Below w.heap.size w ((w.alloc (.cells (fnsR rr) 84)).alloc (.cells #[.int .i64 0, .int .i64 0, .int .i64 0, .int .i64 0, .int .i64 0, .bool false] 45)) := hb0.alloc (by simp) _
  have hFA : At ((w.alloc (.cells (fnsR rr) 84)).alloc (.cells #[.int .i64 0, .int .i64 0, .int .i64 0, .int .i64 0, .int .i64 0, .bool false] 45)) w.heap.size (fnsR rr) 84 := (At.made w (fnsR rr) 84).next _
  have hGA : At ((w.alloc (.cells (fnsR rr) 84)).alloc (.cells #[.int .i64 0, .int .i64 0, .int .i64 0, .int .i64 0, .int .i64 0, .bool false] 45)) (w.heap.size + 1) #[.int .i64 0, .int .i64 0, .int .i64 0, .int .i64 0, .int .i64 0, .bool false] 45 := by
    have := At.made (w.alloc (.cells (fnsR rr) 84)) #[.int .i64 0, .int .i64 0, .int .i64 0, .int .i64 0, .int .i64 0, .bool false] 45
    simpa using this
  have HU : Hid (Calls Tryd.prog 53 #[.pointer (some ⟨rr, 0, none⟩), .int .i64 1] ((w.alloc (.cells (fnsR rr) 84)).alloc (.cells #[.int .i64 0, .int .i64 0, .int .i64 0, .int .i64 0, .int .i64 0, .bool false] 45)) fun e w' => e = .returned (.tuple #[.int .i64 (opA bs a), .int .i64 0]) ∧ Rr w' rr rb bs (a + 1) ∧ Only rb w w' ∧ At w' w.heap.size (fnsR rr) 84 ∧ At w' (w.heap.size + 1) #[.int .i64 0, .int .i64 0, .int .i64 0, .int .i64 0, .int .i64 0, .bool false] 45 ∧ Wd w') := by
    refine (unsigned_any (h.later hbA) 1 (by omega)).mono ?_
    rintro e w' ⟨⟨hy, _, ho⟩, _⟩
    obtain ⟨rfl, hr⟩ := hy (by omega)
    rw [seg_one7 bs a ha, i64n_small (by have := (bs.getD a 0).toNat_lt; omega)]
    refine ⟨rfl, hr, (Only.of_below hbA).trans ho, hFA.only7 ho (by omega), hGA.only7 ho (by omega), ?_⟩
    exact (hW.later hbA).below (ho.below (B := rb) (Nat.le_refl _) (by have := hbA.size; omega)) hrb0
  have HI : Hid (rdI bs a = if 1 ≤ opA bs a ∧ opA bs a ≤ 75 then if a + 1 + widN (opK (opA bs a)) ≤ bs.length then if opK (opA bs a) = 5 ∨ rawB (insD bs a) = true then some (insD bs a) else none else none else none) := rfl
  have HID : Hid (insD bs a = (opA bs a, valD (opK (opA bs a)) bs (a + 1), 0, 0, 0, false)) := rfl
  unfold fnsR mfn pickR at HU
  clear hb0 hbA hFA hGA h hW
  generalize opA bs a = op at *
  unfold fnsR mfn pickR
  go_enter Tryd.func44, Tryd.ntmps44
  go_wp2_with fail
  refine Calls.mono HU.out ?_
  rintro e w1 ⟨rfl, hR1, hO1, hF1, hG1, hW1⟩
  clear HU
  have HO1 : Hid (Only rb w w1) := hO1
  have hs1 : w.heap.size + 1 < w1.heap.size := hG1.lt
  by_cases hin : 1 ≤ op ∧ op ≤ 75
  · have HI2 : Hid (rdI bs a = if a + 1 + widN (opK op) ≤ bs.length then if opK op = 5 ∨ rawB (insD bs a) = true then some (insD bs a) else none else none) := by show _ = _; rw [HI.out, if_pos hin]
    have HO : Hid (Calls Tryd.prog 30 #[.int .i64 op] w1 fun e w' => e = .returned (.tuple #[.agg #[.string (opS op), .int .i64 (opK op : Int), .int .i64 (opW op)], .int .i64 0]) ∧ Below w1.heap.size w1 w') := by
      have := of_in op hin.1 hin.2 w1
      rw [opK_at] at this
      exact this
    have hkl := opK_le op
    have hen := pickR_enter (opK op) hkl
    have hfn := fnsR_at rr (opK op) hkl
    have how : opw (insD bs a) = widN (opK op) := by unfold opw; rw [HID.out]
    have HOW : Hid (opw (insD bs a) = widN (opK op)) := how
    clear hin HI how
    generalize opS op = s at *
    generalize opW op = f at *
    generalize opK op = p at *
    go_wp2_with fail
    refine Calls.mono HO.out ?_
    rintro e w2 ⟨rfl, hb2⟩
    have hbx : Below w2.heap.size w2 (w2.alloc (.cells #[.string s, .int .i64 (p : Int), .int .i64 f] 59)) := (Below.refl _ _).alloc (Nat.le_refl _) _
    have hb3 : Below w1.heap.size w1 (w2.alloc (.cells #[.string s, .int .i64 (p : Int), .int .i64 f] 59)) := hb2.trans (hbx.mono hb2.size)
    have hI3 := At.made w2 #[.string s, .int .i64 (p : Int), .int .i64 f] 59
    have hR3 := hR1.later hb3
    have hF3 := hF1.later hb3
    have hG3 := hG1.later hb3
    have hW3 := hW1.later hb3
    have hs2 := hb2.size
    have HO3 : Hid (Only rb w (w2.alloc (.cells #[.string s, .int .i64 (p : Int), .int .i64 f] 59))) := only_below HO1.out (hb3.mono (by omega))
    have fc : (w2.alloc (.cells #[.string s, .int .i64 (p : Int), .int .i64 f] 59)).cell? ⟨w.heap.size, p, none⟩ = some (.func (.func (pickR p)) #[.pointer (some ⟨rr, 0, none⟩)] #[]) := by rw [hF3.cell]; exact hfn
    have wc := hW3.2 p hkl
    have HI3 : Hid (At (w2.alloc (.cells #[.string s, .int .i64 (p : Int), .int .i64 f] 59)) w2.heap.size #[.string s, .int .i64 (p : Int), .int .i64 f] 59) := hI3
    have HG3 : Hid (At (w2.alloc (.cells #[.string s, .int .i64 (p : Int), .int .i64 f] 59)) (w.heap.size + 1) #[.int .i64 0, .int .i64 0, .int .i64 0, .int .i64 0, .int .i64 0, .bool false] 45) := hG3
    have HKS : Hid (∀ W, Only rb (w2.alloc (.cells #[.string s, .int .i64 (p : Int), .int .i64 f] 59)) W → W.cell? ⟨w2.heap.size, 1, none⟩ = some (.int .i64 (p : Int)) ∧ W.cell? ⟨w.heap.size, p, none⟩ = some (.func (.func (pickR p)) #[.pointer (some ⟨rr, 0, none⟩)] #[]) ∧ W.cell? ⟨0, p, none⟩ = some (.int .i64 (widN p : Int))) := by
      intro W hW
      refine ⟨(hI3.only7 hW (by omega)).cell 1, ?_, ?_⟩
      · rw [(hF3.only7 hW (by omega)).cell]; exact hfn
      · rw [← wc]; exact World.cell?_of_block (hW.block 0 (by show 0 < _; have := hI3.lt; omega) (by show (0 : Nat) ≠ rb; omega))
    have HRD : Hid (∀ m, Calls Tryd.prog (pickR p) #[.pointer (some ⟨rr, 0, none⟩), .int .i64 (widN p : Int)] ((w2.alloc (.cells #[.string s, .int .i64 (p : Int), .int .i64 f] 59)).drewN m) fun e w' => GotN (w2.alloc (.cells #[.string s, .int .i64 (p : Int), .int .i64 f] 59)) w' rr rb bs (a + 1) (widN p) (valD p bs (a + 1)) e) := by
      intro m
      refine (read7_any hkl (hR3.drewN m) hl).mono ?_
      rintro e w' ⟨g1, g2, g3⟩
      exact ⟨g1, g2, ((Only.refl _ _).drewN m).trans g3⟩
    have HRB : Hid (∀ W W', Rr W rr rb bs (a + 1 + widN p) → Below w.heap.size W W' → Rr W' rr rb bs (a + 1 + widN p)) := fun W W' hr hb => ⟨hr.box.below hb (by omega), hr.rd.below hb hrb, hr.ne⟩
    have hi2 : (0 : Int) ≤ (p : Int) := by omega
    have hi3 : (p : Int) < 9 := by omega
    clear hb2 hbx hb3 hI3 hR3 hF3 hG3 hW3 hR1 hF1 hG1 hW1 hO1 HO hfn hkl fc wc
    by_cases hsh : a + 1 + widN p ≤ bs.length
    · have HI4 : Hid (rdI bs a = if p = 5 ∨ rawB (insD bs a) = true then some (insD bs a) else none) := by show _ = _; rw [HI2.out, if_pos hsh]
      have HRY : Hid (∀ m, Calls Tryd.prog (pickR p) #[.pointer (some ⟨rr, 0, none⟩), .int .i64 (widN p : Int)] ((w2.alloc (.cells #[.string s, .int .i64 (p : Int), .int .i64 f] 59)).drewN m) fun e w' => e = .returned (.tuple #[.int .i64 (valD p bs (a + 1)), .int .i64 0]) ∧ Rr w' rr rb bs (a + 1 + widN p) ∧ Only rb (w2.alloc (.cells #[.string s, .int .i64 (p : Int), .int .i64 f] 59)) w') := by
        intro m
        refine (HRD.out m).mono ?_
        rintro e w' ⟨g1, g2, g3⟩
        exact ⟨(g1 hsh).1, (g1 hsh).2, g3⟩
      clear HRD HI2
      generalize valD p bs (a + 1) = y at *
      go_wp2_with fail
      go_region_held3 (fun w' => w'.cell? ⟨w2.heap.size, 1, none⟩ = some (.int .i64 (p : Int)) ∧ w'.cell? ⟨w.heap.size, p, none⟩ = some (.func (.func (pickR p)) #[.pointer (some ⟨rr, 0, none⟩)] #[]) ∧ w'.cell? ⟨0, p, none⟩ = some (.int .i64 (widN p : Int)))
        (first | (exact HKS.out _ ((Only.refl _ _).drewN 1)) | (exact HKS.out _ hO4))
        (first | (refine Calls.mono (HRY.out 1) ?_; rintro e w4 ⟨rfl, hR4, hO4⟩))
      rename_i hheld
      clear hheld
      have hI4 := HI3.out.only7 hO4 (by omega)
      have hG4 := HG3.out.only7 hO4 (by omega)
      have hs4 : w.heap.size + 1 < w4.heap.size := hG4.lt
      have hb5 : Below w4.heap.size w4 (w4.alloc (.cells #[.int .i64 op, .int .i64 y, .int .i64 0, .int .i64 0, .int .i64 0, .bool false] 45)) := (Below.refl _ _).alloc (Nat.le_refl _) _
      have hX5 := At.made w4 #[.int .i64 op, .int .i64 y, .int .i64 0, .int .i64 0, .int .i64 0, .bool false] 45
      have hI5 := hI4.later hb5
      have HO4 : Hid (Only rb w w4) := HO3.out.trans hO4
      have ic := hI5.cell
      have xc := hX5.cell
      by_cases h5 : p = 5
      · have h5' : ((p : Int) != 5) = false := by rw [bne_eq_false_iff_eq]; omega
        have HR : Hid (rdI bs a = some (op, y, 0, 0, 0, false)) := by show _ = _; rw [HI4.out, if_pos (.inl h5), HID.out]
        have hG5 := hG4.later hb5
        have HB := below_set6 (hb5.mono (show w.heap.size ≤ w4.heap.size by omega)) (show w.heap.size ≤ w.heap.size + 1 by omega) (.int .i64 op) (.int .i64 y) (.int .i64 0) (.int .i64 0) (.int .i64 0) (.bool false)
        have HRr : Hid (Rr w4 rr rb bs (a + 1 + widN p)) := hR4
        have HBo := only_below HO4.out HB
        have HF := (hG5.set6 (.int .i64 op) (.int .i64 y) (.int .i64 0) (.int .i64 0) (.int .i64 0) (.bool false)).cell
        have HRr5 : Hid (Rr ((((((((w4.alloc (.cells #[.int .i64 op, .int .i64 y, .int .i64 0, .int .i64 0, .int .i64 0, .bool false] 45))).setCell ⟨w.heap.size + 1, 0, none⟩ (.int .i64 op)).setCell ⟨w.heap.size + 1, 1, none⟩ (.int .i64 y)).setCell ⟨w.heap.size + 1, 2, none⟩ (.int .i64 0)).setCell ⟨w.heap.size + 1, 3, none⟩ (.int .i64 0)).setCell ⟨w.heap.size + 1, 4, none⟩ (.int .i64 0)).setCell ⟨w.heap.size + 1, 5, none⟩ (.bool false)) rr rb bs (a + 1 + widN p)) := HRB.out w4 _ hR4 HB
        have tc := hG5.cell
        have tm := hG5.melt
        clear h5 hb5 hX5 hI4 hI5 hG4 hG5 hR4 hO4 HB hs4 hs1 hs2
        go_wp2
        exact bodyPost_ret (v := .tuple #[.agg #[.int .i64 op, .int .i64 y, .int .i64 0, .int .i64 0, .int .i64 0, .bool false], .int .i64 0]) (by simp [results, Tryd.results44, go_sem, HF]) rfl
          ⟨fun x hx => by
            have e := HR.out.symm.trans hx
            simp only [Option.some.injEq] at e
            subst e
            exact ⟨rfl, by rw [← HID.out, HOW.out]; exact HRr5.out⟩, fun h => absurd (HR.out.symm.trans h) (by simp), HBo⟩
      · have h5' : ((p : Int) != 5) = true := by rw [bne_iff_ne]; omega
        have HI5 : Hid (rdI bs a = if rawB (op, y, 0, 0, 0, false) = true then some (op, y, 0, 0, 0, false) else none) := by
          show _ = _
          rw [HI4.out, HID.out]
          by_cases hq : rawB (op, y, 0, 0, 0, false) = true
          · rw [if_pos (.inr hq), if_pos hq]
          · rw [if_neg (by intro h; rcases h with h | h; exact h5 h; exact hq h), if_neg hq]
        have HR4 : Hid (Rr w4 rr rb bs (a + 1 + widN p)) := hR4
        have HG4 : Hid (At w4 (w.heap.size + 1) #[.int .i64 0, .int .i64 0, .int .i64 0, .int .i64 0, .int .i64 0, .bool false] 45) := hG4
        have HB5 : Hid (Below w4.heap.size w4 (w4.alloc (.cells #[.int .i64 op, .int .i64 y, .int .i64 0, .int .i64 0, .int .i64 0, .bool false] 45))) := hb5
        have HX5 : Hid (At (w4.alloc (.cells #[.int .i64 op, .int .i64 y, .int .i64 0, .int .i64 0, .int .i64 0, .bool false] 45)) w4.heap.size #[.int .i64 op, .int .i64 y, .int .i64 0, .int .i64 0, .int .i64 0, .bool false] 45) := hX5
        clear h5 hb5 hX5 hI4 hI5 hG4 hR4 hO4 HI4 HKS HRY
        go_wp2_with fail
        refine (isRaw_any op y 0 0 0 false _).mono ?_
        rintro e w6 ⟨rfl, hb6⟩
        have hb46 := HB5.out.trans (hb6.mono HB5.out.size)
        have hG6 := HG4.out.later hb46
        have hX6 := HX5.out.later hb6
        have xc6 := hX6.cell
        have tc := hG6.cell
        have tm := hG6.melt
        clear ic xc hb6
        cases hq : rawB (op, y, 0, 0, 0, false) with
        | false =>
          have HN : Hid (rdI bs a = none) := by show _ = _; rw [HI5.out, if_neg (by rw [hq]; decide)]
          have HB := below_set6 (hb46.mono (show w.heap.size ≤ w4.heap.size by omega)) (show w.heap.size ≤ w.heap.size + 1 by omega) (.int .i64 0) (.int .i64 0) (.int .i64 0) (.int .i64 0) (.int .i64 0) (.bool false)
          have HBo := only_below HO4.out HB
          have HF := (hG6.set6 (.int .i64 0) (.int .i64 0) (.int .i64 0) (.int .i64 0) (.int .i64 0) (.bool false)).cell
          clear hb46 hG6 hX6 HB HI5
          go_wp2
          exact bodyPost_ret (v := .tuple #[iv zeroI, .int .i64 3]) (by simp [results, Tryd.results44, go_sem, HF, iv, zeroI]) rfl ⟨fun x hx => absurd (HN.out.symm.trans hx) (by simp), fun _ => ⟨3, rfl, by decide⟩, HBo⟩
        | true =>
          have HR : Hid (rdI bs a = some (op, y, 0, 0, 0, false)) := by show _ = _; rw [HI5.out, if_pos hq]
          have HB := below_set6 (hb46.mono (show w.heap.size ≤ w4.heap.size by omega)) (show w.heap.size ≤ w.heap.size + 1 by omega) (.int .i64 op) (.int .i64 y) (.int .i64 0) (.int .i64 0) (.int .i64 0) (.bool false)
          have HBo := only_below HO4.out HB
          have HF := (hG6.set6 (.int .i64 op) (.int .i64 y) (.int .i64 0) (.int .i64 0) (.int .i64 0) (.bool false)).cell
          have HRr5 : Hid (Rr ((((((w6.setCell ⟨w.heap.size + 1, 0, none⟩ (.int .i64 op)).setCell ⟨w.heap.size + 1, 1, none⟩ (.int .i64 y)).setCell ⟨w.heap.size + 1, 2, none⟩ (.int .i64 0)).setCell ⟨w.heap.size + 1, 3, none⟩ (.int .i64 0)).setCell ⟨w.heap.size + 1, 4, none⟩ (.int .i64 0)).setCell ⟨w.heap.size + 1, 5, none⟩ (.bool false)) rr rb bs (a + 1 + widN p)) := HRB.out w4 _ HR4.out HB
          clear hb46 hG6 hX6 HB HI5
          go_wp2
          exact bodyPost_ret (v := .tuple #[.agg #[.int .i64 op, .int .i64 y, .int .i64 0, .int .i64 0, .int .i64 0, .bool false], .int .i64 0]) (by simp [results, Tryd.results44, go_sem, HF]) rfl
            ⟨fun x hx => by
              have e := HR.out.symm.trans hx
              simp only [Option.some.injEq] at e
              subst e
              exact ⟨rfl, by rw [← HID.out, HOW.out]; exact HRr5.out⟩, fun h => absurd (HR.out.symm.trans h) (by simp), HBo⟩
    · have HN : Hid (rdI bs a = none) := by show _ = _; rw [HI2.out, if_neg hsh]
      have HRY : Hid (∀ m, Calls Tryd.prog (pickR p) #[.pointer (some ⟨rr, 0, none⟩), .int .i64 (widN p : Int)] ((w2.alloc (.cells #[.string s, .int .i64 (p : Int), .int .i64 f] 59)).drewN m) fun e w' => (∃ z, e = .returned (.tuple #[.int .i64 z, .int .i64 1])) ∧ Only rb (w2.alloc (.cells #[.string s, .int .i64 (p : Int), .int .i64 f] 59)) w') := by
        intro m
        refine (HRD.out m).mono ?_
        rintro e w' ⟨g1, g2, g3⟩
        exact ⟨(g2 (by omega)).1, g3⟩
      clear HRD HI2
      go_wp2_with fail
      go_region_held3 (fun w' => w'.cell? ⟨w2.heap.size, 1, none⟩ = some (.int .i64 (p : Int)) ∧ w'.cell? ⟨w.heap.size, p, none⟩ = some (.func (.func (pickR p)) #[.pointer (some ⟨rr, 0, none⟩)] #[]) ∧ w'.cell? ⟨0, p, none⟩ = some (.int .i64 (widN p : Int)))
        (first | (exact HKS.out _ ((Only.refl _ _).drewN 1)) | (exact HKS.out _ hO4))
        (first | (refine Calls.mono (HRY.out 1) ?_; rintro e w4 ⟨⟨z, rfl⟩, hO4⟩))
      rename_i hheld
      clear hheld
      have hG4 := HG3.out.only7 hO4 (by omega)
      have HO4 : Hid (Only rb w w4) := HO3.out.trans hO4
      have hs4 : w.heap.size + 1 < w4.heap.size := hG4.lt
      have HB := below_set6 (Below.refl w.heap.size w4) (show w.heap.size ≤ w.heap.size + 1 by omega) (.int .i64 0) (.int .i64 0) (.int .i64 0) (.int .i64 0) (.int .i64 0) (.bool false)
      have HBo := only_below HO4.out HB
      have HF := (hG4.set6 (.int .i64 0) (.int .i64 0) (.int .i64 0) (.int .i64 0) (.int .i64 0) (.bool false)).cell
      have tc := hG4.cell
      have tm := hG4.melt
      clear HB hG4 hO4
      go_wp2
      exact bodyPost_ret (v := .tuple #[iv zeroI, .int .i64 1]) (by simp [results, Tryd.results44, go_sem, HF, iv, zeroI]) rfl ⟨fun x hx => absurd (HN.out.symm.trans hx) (by simp), fun _ => ⟨1, rfl, by decide⟩, HBo⟩
  · have HN : Hid (rdI bs a = none) := by show _ = _; rw [HI.out, if_neg hin]
    have HO : Hid (Calls Tryd.prog 30 #[.int .i64 op] w1 fun e w' => e = .returned (.tuple #[.agg #[.string ⟨#[]⟩, .int .i64 0, .int .i64 0], .int .i64 3]) ∧ Below w1.heap.size w1 w') := of_out op hin w1
    clear hin HI HID hR1 hF1 hW1
    go_wp2_with fail
    refine Calls.mono HO.out ?_
    rintro e w2 ⟨rfl, hb2⟩
    have hbx : Below w2.heap.size w2 (w2.alloc (.cells #[.string ⟨#[]⟩, .int .i64 0, .int .i64 0] 59)) := (Below.refl _ _).alloc (Nat.le_refl _) _
    have hb3 := hb2.trans (hbx.mono hb2.size)
    have hG3 := hG1.later hb3
    have tc := hG3.cell
    have tm := hG3.melt
    have HF := (hG3.set6 (.int .i64 0) (.int .i64 0) (.int .i64 0) (.int .i64 0) (.int .i64 0) (.bool false)).cell
    have HB := below_set6 (hb3.mono (show w.heap.size ≤ w1.heap.size by omega)) (show w.heap.size ≤ w.heap.size + 1 by omega) (.int .i64 0) (.int .i64 0) (.int .i64 0) (.int .i64 0) (.int .i64 0) (.bool false)
    clear hb2 hbx hb3 hG3 hG1 HO
    go_wp2
    exact bodyPost_ret (v := .tuple #[iv zeroI, .int .i64 2]) (by simp [results, Tryd.results44, go_sem, HF, iv, zeroI]) rfl ⟨fun x hx => absurd (HN.out.symm.trans hx) (by simp), fun _ => ⟨2, rfl, by decide⟩, only_below HO1.out HB⟩

end Go.Proofs.YtpgkjfjooogfmaaDoor
