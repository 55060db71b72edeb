
/- The reader of layer 1: what New makes, and At, Left, Skip, Done of one that is there. -/
import Derived.Test.YtfgjlljbpcombaaRows
import Derived.Test.YtfgjlljbpcombaaExtend
import Derived.Deep.QuietTactic
import Derived.BigQuiet
namespace Go.Proofs.Ytfgjlljbpcombaa
set_option linter.unusedVariables false
set_option linter.unusedSimpArgs false
open Go.RowKit

/-- Nothing that was there has turned, but for one block. -/
structure Only (rb : Nat) (w w' : World) : Prop where
  os : w'.os = w.os
  tape : w'.tape = w.tape
  output : w'.output = w.output
  size : w.heap.size ≤ w'.heap.size
  block : ∀ k, k < w.heap.size → k ≠ rb → w'.heap[k]? = w.heap[k]?

theorem Only.refl (rb : Nat) (w : World) : Only rb w w := ⟨rfl, rfl, rfl, Nat.le_refl _, fun _ _ _ => rfl⟩
theorem Only.trans {rb : Nat} {a b c : World} (h : Only rb a b) (k : Only rb b c) : Only rb a c :=
  ⟨k.os.trans h.os, k.tape.trans h.tape, k.output.trans h.output, Nat.le_trans h.size k.size, fun i hi hne => (k.block i (Nat.lt_of_lt_of_le hi h.size) hne).trans (h.block i hi hne)⟩
theorem Only.below {rb B : Nat} {w w' : World} (h : Only rb w w') (hB : B ≤ rb) (hs : B ≤ w.heap.size) : Below B w w' :=
  ⟨h.os, h.tape, h.output, h.size, fun k hk => h.block k (by omega) (by omega)⟩
theorem Only.of_below {rb : Nat} {w w' : World} (h : Below w.heap.size w w') : Only rb w w' := ⟨h.os, h.tape, h.output, h.size, fun k hk _ => h.block k hk⟩
theorem Only.drewN {rb : Nat} {a w : World} (h : Only rb a w) (n : Nat) : Only rb a (w.drewN n) := ⟨h.os, h.tape, h.output, h.size, h.block⟩
theorem Only.setCell {rb : Nat} {a w : World} (h : Only rb a w) (o : Nat) (u : Value) : Only rb a (w.setCell ⟨rb, o, none⟩ u) :=
  h.trans ⟨rfl, rfl, rfl, by simp [World.setCell], fun k _ hne => Below.heap_setCell _ _ _ _ hne⟩
theorem Only.alloc {rb : Nat} {a w : World} (h : Only rb a w) (o : Obj) : Only rb a (w.alloc o) :=
  h.trans (Only.of_below ((Below.refl _ _).alloc (Nat.le_refl _) o))

theorem Bs.only {w w' : World} {v : Value} {bs : List UInt8} {rb : Nat} (h : Bs w v bs) (ho : Only rb w w') (hk : bs ≠ [] → v.ownBlock ≠ some rb) : Bs w' v bs := by
  by_cases hb : bs = []
  · subst hb
    obtain ⟨a, cap, rfl, h1, h2, h3⟩ := h
    exact ⟨a, cap, rfl, h1, h2, fun hne => absurd rfl hne⟩
  · exact h.of_block ho.size fun k hv hlt => ho.block k hlt (fun e => hk hb (e ▸ hv))

/-- In block rb lies a reader of these bytes, of which so many were read. -/
structure RdAt (w : World) (rb : Nat) (bs : List UInt8) (at_ : Nat) : Prop where
  le : at_ ≤ bs.length
  small : bs.length ≤ 281474976710656
  blk : ∃ sv, w.heap[rb]? = some (.cells #[sv, .int .i64 (at_ : Int)] 69 (0, 0)) ∧ Bs w sv bs ∧ ∀ k, sv.ownBlock = some k → k < rb

theorem RdAt.only {w w' : World} {rb : Nat} {bs : List UInt8} {at_ : Nat} (h : RdAt w rb bs at_) (ho : Below w.heap.size w w') : RdAt w' rb bs at_ := by
  obtain ⟨h1, h2, sv, h3, h4, h5⟩ := h
  have hlt : rb < w.heap.size := (Array.getElem?_eq_some_iff.1 h3).1
  exact ⟨h1, h2, sv, by rw [ho.block rb hlt]; exact h3, h4.later ho, h5⟩

/-- The reader stands where nothing up to it has turned. -/
theorem RdAt.below {w w' : World} {rb B : Nat} {bs : List UInt8} {at_ : Nat} (h : RdAt w rb bs at_) (ho : Below B w w') (hB : rb < B) : RdAt w' rb bs at_ := by
  obtain ⟨h1, h2, sv, h3, h4, h5⟩ := h
  exact ⟨h1, h2, sv, by rw [ho.block rb hB]; exact h3, h4.below ho fun k hk => by have := h5 k hk; omega, h5⟩

theorem RdAt.drewN {w : World} {rb : Nat} {bs : List UInt8} {at_ : Nat} (h : RdAt w rb bs at_) (n : Nat) : RdAt (w.drewN n) rb bs at_ := by
  obtain ⟨h1, h2, sv, h3, h4, h5⟩ := h
  exact ⟨h1, h2, sv, h3, h4.drewN n, h5⟩

theorem RdAt.lt {w : World} {rb : Nat} {bs : List UInt8} {at_ : Nat} (h : RdAt w rb bs at_) : rb < w.heap.size := by
  obtain ⟨h1, h2, sv, h3, h4, h5⟩ := h
  exact (Array.getElem?_eq_some_iff.1 h3).1

/-- The reader's cells, as the walk wants them. -/
theorem RdAt.cells {w : World} {rb : Nat} {bs : List UInt8} {at_ : Nat} (h : RdAt w rb bs at_) :
    ∃ a cap, w.cell? ⟨rb, 0, none⟩ = some (.slice a bs.length cap) ∧ w.cell? ⟨rb, 1, none⟩ = some (.int .i64 (at_ : Int)) ∧ w.frozen? ⟨rb, 1, none⟩ = false ∧ bs.length ≤ cap ∧ cap ≤ maxLen ∧ (bs = [] ∨
      ∃ b off, a = some ⟨b, off, none⟩ ∧ b < w.heap.size ∧ b ≠ rb ∧ ∀ i (h : i < bs.length), w.cell? ⟨b, off + i, none⟩ = some (.int .u8 (bs[i].toNat : Int))) := by
  obtain ⟨h1, h2, sv, h3, ⟨a, cap, rfl, g1, g2, g3⟩, h5⟩ := h
  refine ⟨a, cap, by simp [World.cell?, h3], by simp [World.cell?, h3], by simp [World.frozen?, h3], g1, g2, ?_⟩
  by_cases hb : bs = []
  · exact .inl hb
  · obtain ⟨b, off, rfl, hb1, hb2⟩ := g3 hb
    exact .inr ⟨b, off, rfl, hb1, fun e => absurd (h5 rb (by simp [Value.ownBlock, e])) (Nat.lt_irrefl _), hb2⟩

/-- The reader goes on. -/
theorem RdAt.go {w : World} {rb : Nat} {bs : List UInt8} {at_ : Nat} (h : RdAt w rb bs at_) (n : Nat) (hn : at_ + n ≤ bs.length) :
    RdAt (w.setCell ⟨rb, 1, none⟩ (.int .i64 ((at_ + n : Nat) : Int))) rb bs (at_ + n) := by
  have ho := (Only.refl rb w).setCell 1 (.int .i64 ((at_ + n : Nat) : Int))
  obtain ⟨h1, h2, sv, h3, h4, h5⟩ := h
  refine ⟨hn, h2, sv, ?_, h4.only ho (fun _ e => absurd (h5 rb e) (Nat.lt_irrefl _)), h5⟩
  rw [setCell_eq_setRow w rb 1 _ _ _ _ h3, setRow_heap w rb _ _ _ _ h3]
  simp

theorem new_world (w : World) (bs : List UInt8) (hs : bs.length ≤ 281474976710656) :
    RdAt ((w.alloc (.cells (u8s bs).toArray 5)).alloc (.cells #[.slice (some ⟨w.heap.size, 0, none⟩) bs.length bs.length, .int .i64 0] 69)) (w.heap.size + 1) bs 0 := by
  refine ⟨Nat.zero_le _, hs, .slice (some ⟨w.heap.size, 0, none⟩) bs.length bs.length, ?_, ?_, ?_⟩
  · have := heap_alloc_new (w.alloc (.cells (u8s bs).toArray 5)) (.cells #[.slice (some ⟨w.heap.size, 0, none⟩) bs.length bs.length, .int .i64 0] 69)
    simpa using this
  · exact (Bs.made w bs 5 (by unfold maxLen; omega)).later ((Below.refl _ _).alloc (Nat.le_refl _) _)
  · simp [Value.ownBlock]

set_option maxHeartbeats 400000 in
theorem new_any {v : Value} {bs : List UInt8} {w : World} (hv : Bs w v bs) (hn : bs.length ≤ 281474976710656) :
    Calls Try.prog 25 #[v] w fun e w' => e = .returned (.pointer (some ⟨w.heap.size + 1, 0, none⟩)) ∧ RdAt w' (w.heap.size + 1) bs 0 ∧ Below w.heap.size w w' := by
  have hnw := new_world w bs hn
  have hnw' : Hid _ := hnw
  clear hnw
  have he : Calls Try.prog 36 #[v, .int .i64 0] w fun e w' => e = .returned (.slice (some ⟨w.heap.size, 0, none⟩) bs.length bs.length) ∧
      w' = w.alloc (.cells (u8s bs).toArray 5) := by
    have := extend_any hv 0 (by omega)
    simpa [ext_zero] using this
  go_enter Try.func25, Try.ntmps25
  go_wp2_with fail
  refine he.mono ?_
  rintro e w' ⟨rfl, rfl⟩
  go_wp2
  go_ret
  exact ⟨rfl, hnw'.out, ((Below.refl _ _).alloc (Nat.le_refl _) _).alloc (by simp) _⟩

theorem at_any {w : World} {rb : Nat} {bs : List UInt8} {at_ : Nat} (h : RdAt w rb bs at_) :
    Calls Try.prog 27 #[.pointer (some ⟨rb, 0, none⟩)] w fun e w' => e = .returned (.int .i64 (at_ : Int)) ∧ w' = w := by
  obtain ⟨a, cap, c0, c1, f1, _⟩ := h.cells
  clear h
  go_enter Try.func27, Try.ntmps27
  go_wp2
  go_ret
  exact ⟨rfl, rfl⟩

theorem left_any {w : World} {rb : Nat} {bs : List UInt8} {at_ : Nat} (h : RdAt w rb bs at_) :
    Calls Try.prog 47 #[.pointer (some ⟨rb, 0, none⟩)] w fun e w' => e = .returned (.int .i64 ((bs.length : Int) - at_)) ∧ ∃ n, w' = w.drewN n := by
  obtain ⟨a, cap, c0, c1, f1, _⟩ := h.cells
  have hle := h.le
  have hsm := h.small
  clear h
  go_enter Try.func47, Try.ntmps47
  go_wp2
  go_quiet (fail)
  go_wp2
  go_ret
  exact ⟨rfl, nq, rfl⟩

/-- What Skip and Take answer, and how far they go. -/
def skipE (len at_ : Nat) (n : Int) : Int := if n < 0 then 3 else if (len : Int) - at_ < n then 1 else 0
def skipN (len at_ : Nat) (n : Int) : Nat := if n < 0 then 0 else if (len : Int) - at_ < n then 0 else n.toNat

set_option maxHeartbeats 400000 in
theorem skip_any {w : World} {rb : Nat} {bs : List UInt8} {at_ : Nat} (h : RdAt w rb bs at_) (n : Int) :
    Calls Try.prog 48 #[.pointer (some ⟨rb, 0, none⟩), .int .i64 n] w fun e w' => e = .returned (.int .i64 (skipE bs.length at_ n)) ∧ RdAt w' rb bs (at_ + skipN bs.length at_ n) ∧ Only rb w w' := by
  obtain ⟨a, cap, c0, c1, f1, _⟩ := h.cells
  have hle := h.le
  have hsm := h.small
  by_cases h0 : n < 0
  · have e1 : Hid (skipE bs.length at_ n = 3) := by show _ = _; simp [skipE, h0]
    have e2 : skipN bs.length at_ n = 0 := by simp [skipN, h0]
    rw [e2]
    have H : Hid (RdAt w rb bs (at_ + 0)) := h
    clear h e2
    go_enter Try.func48, Try.ntmps48
    go_wp2
    go_ret
    exact ⟨ret_int e1.out.symm, H.out, Only.refl _ _⟩
  · by_cases h1 : (bs.length : Int) - at_ < n
    · have e1 : Hid (skipE bs.length at_ n = 1) := by show _ = _; simp [skipE, h0, h1]
      have e2 : skipN bs.length at_ n = 0 := by simp [skipN, h0, h1]
      rw [e2]
      clear e2
      go_enter Try.func48, Try.ntmps48
      go_wp2_with (go_at_call 47; refine (left_any h).mono ?_; rintro e w' ⟨rfl, nq, rfl⟩)
      go_ret
      exact ⟨ret_int e1.out.symm, h.drewN _, (Only.refl _ _).drewN _⟩
    · have e1 : Hid (skipE bs.length at_ n = 0) := by show _ = _; simp [skipE, h0, h1]
      obtain ⟨m, rfl⟩ := Int.eq_ofNat_of_zero_le (show 0 ≤ n by omega)
      have e2 : skipN bs.length at_ m = m := by unfold skipN; rw [if_neg h0, if_neg h1]; omega
      rw [e2]
      clear e2
      have G : Hid (∀ k, RdAt ((w.setCell ⟨rb, 1, none⟩ (.int .i64 ((at_ + m : Nat) : Int))).drewN k) rb bs (at_ + m)) := fun k => (h.go m (by omega)).drewN k
      go_enter Try.func48, Try.ntmps48
      go_wp2_with (go_at_call 47; refine (left_any h).mono ?_; rintro e w' ⟨rfl, nq, rfl⟩)
      go_ret
      exact ⟨ret_int e1.out.symm, G.out _, ((Only.refl _ _).setCell _ _).drewN _⟩

end Go.Proofs.Ytfgjlljbpcombaa
