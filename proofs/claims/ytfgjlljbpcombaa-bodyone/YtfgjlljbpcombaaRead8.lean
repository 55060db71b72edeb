
/- The reader of bodies: number, want, zeros, code, clause. -/
import Derived.Test.YtfgjlljbpcombaaSmall8
import Derived.Test.YtfgjlljbpcombaaRefNum
namespace Go.Proofs.Ytfgjlljbpcombaa
set_option linter.unusedVariables false
set_option linter.unusedSimpArgs false
open Go.RowKit
attribute [local go_sem ↓] Go.wp_at_zero Go.wp_at_succ

/-- Nothing that was there has turned, but for two blocks. -/
structure Onl (rr rb : Nat) (w w' : World) : Prop where
  os : w'.os = w.os
  tape : w'.tape = w.tape
  output : w'.output = w.output
  size : w.heap.size ≤ w'.heap.size
  block : ∀ k, k < w.heap.size → k ≠ rr → k ≠ rb → w'.heap[k]? = w.heap[k]?
theorem Onl.refl (rr rb : Nat) (w : World) : Onl rr rb w w := ⟨rfl, rfl, rfl, Nat.le_refl _, fun _ _ _ _ => rfl⟩
theorem Onl.trans {rr rb : Nat} {a b c : World} (h : Onl rr rb a b) (k : Onl rr rb b c) : Onl rr rb a c :=
  ⟨k.os.trans h.os, k.tape.trans h.tape, k.output.trans h.output, Nat.le_trans h.size k.size, fun i hi h1 h2 => (k.block i (Nat.lt_of_lt_of_le hi h.size) h1 h2).trans (h.block i hi h1 h2)⟩
theorem Only.onl {rr rb : Nat} {w w' : World} (h : Only rb w w') : Onl rr rb w w' := ⟨h.os, h.tape, h.output, h.size, fun k hk _ h2 => h.block k hk h2⟩
theorem Onl.of_below {rr rb : Nat} {w w' : World} (h : Below w.heap.size w w') : Onl rr rb w w' := ⟨h.os, h.tape, h.output, h.size, fun k hk _ _ => h.block k hk⟩
theorem Onl.setCell {rr rb : Nat} {a w : World} (h : Onl rr rb a w) (o : Nat) (u : Value) : Onl rr rb a (w.setCell ⟨rr, o, none⟩ u) :=
  h.trans ⟨rfl, rfl, rfl, by simp [World.setCell], fun k _ h1 _ => Below.heap_setCell _ _ _ _ h1⟩
theorem Onl.below {rr rb B : Nat} {w w' : World} (h : Onl rr rb w w') (h1 : B ≤ rr) (h2 : B ≤ rb) (hs : B ≤ w.heap.size) : Below B w w' :=
  ⟨h.os, h.tape, h.output, h.size, fun k hk => h.block k (by omega) (by omega) (by omega)⟩
theorem At.onl {w w' : World} {g rr rb : Nat} {C : Array Value} {t : TypeId} (h : At w g C t) (ho : Onl rr rb w w') (h1 : g ≠ rr) (h2 : g ≠ rb) : At w' g C t := by
  have := h.lt
  unfold At at h ⊢
  rw [ho.block g this h1 h2]; exact h
theorem At.only8 {w w' : World} {g rb : Nat} {C : Array Value} {t : TypeId} (h : At w g C t) (ho : Only rb w w') (h2 : g ≠ rb) : At w' g C t := by
  have := h.lt
  unfold At at h ⊢
  rw [ho.block g this h2]; exact h

/-- In block rr lies a reader of bodies over the reader of bytes in block rb: where it is, and its error. -/
structure Rx (w : World) (rr rb : Nat) (bs : List UInt8) (s : St) : Prop where
  box : At w rr #[.pointer (some ⟨rb, 0, none⟩), .int .i64 s.2] 56
  rd : RdAt w rb bs s.1
  lt : rb < rr
theorem Rx.later {w w' : World} {rr rb : Nat} {bs : List UInt8} {s : St} (h : Rx w rr rb bs s) (hb : Below w.heap.size w w') : Rx w' rr rb bs s := ⟨h.box.later hb, h.rd.only hb, h.lt⟩
theorem Rx.below {w w' : World} {rr rb B : Nat} {bs : List UInt8} {s : St} (h : Rx w rr rb bs s) (hb : Below B w w') (hB : rr < B) : Rx w' rr rb bs s := ⟨h.box.below hb hB, h.rd.below hb (by have := h.lt; omega), h.lt⟩
theorem Rx.set {w : World} {rr rb : Nat} {bs : List UInt8} {s : St} (h : Rx w rr rb bs s) (e : Int) : Rx (w.setCell ⟨rr, 1, none⟩ (.int .i64 e)) rr rb bs (s.1, e) := by
  refine ⟨?_, ?_, h.lt⟩
  · have := h.box.set 1 (.int .i64 e)
    simpa using this
  · exact h.rd.below ((Below.refl rr w).setCell (Nat.le_refl _) _) h.lt
theorem Rx.back {w : World} {rr rb : Nat} {bs : List UInt8} {a : Nat} {e : Int} (h : Rx w rr rb bs (a, e)) {s : St} (hs : s = (a, e)) : Rx w rr rb bs s := by subst hs; exact h

theorem seg_lt8 (bs : List UInt8) (a n : Nat) (hn : n ≤ 4) : leN (seg bs a n) < 4294967296 := by
  have h := leN_lt (seg bs a n)
  have hl : (seg bs a n).length ≤ n := by simp [seg]; omega
  have h2 : 256 ^ (seg bs a n).length ≤ 256 ^ 4 := Nat.pow_le_pow_right (by omega) (by omega)
  omega
theorem nuV_lt (bs : List UInt8) (s : St) (n : Nat) (hn : n ≤ 4) : nuV bs s n < 4294967296 := by
  unfold nuV
  split
  · split
    · exact seg_lt8 bs s.1 n hn
    · omega
  · omega

set_option maxHeartbeats 1000000 in
theorem number8_any {w : World} {rr rb : Nat} {bs : List UInt8} {s : St} (h : Rx w rr rb bs s) (n : Nat) (hn : n = 1 ∨ n = 2 ∨ n = 4) :
    Calls Try.prog 37 #[.pointer (some ⟨rr, 0, none⟩), .int .i64 (n : Int)] w fun e w' => e = .returned (.int .i64 (nuV bs s n : Int)) ∧ Rx w' rr rb bs (nuS bs s n) ∧ Onl rr rb w w' := by
  obtain ⟨a, er⟩ := s
  have tc := h.box.cell
  have tm := h.box.melt
  have hne : rr ≠ rb := by have := h.lt; omega
  by_cases he : er = 0
  · subst he
    have hw : wideB (n : Int) = true := by rcases hn with rfl | rfl | rfl <;> rfl
    by_cases hs : a + n ≤ bs.length
    · have HV : Hid (nuV bs (a, 0) n = leN (seg bs a n) ∧ nuS bs (a, 0) n = (a + n, 0)) := ⟨by simp [nuV, hs], by simp [nuS, hs]⟩
      have hlt := seg_lt8 bs a n (by omega)
      have HN : Hid (Calls Try.prog 44 #[.pointer (some ⟨rb, 0, none⟩), .int .i64 (n : Int)] w fun e w' => e = .returned (.tuple #[.int .u64 (leN (seg bs a n) : Int), .int .i64 0]) ∧ Rx w' rr rb bs (a + n, 0) ∧ Only rb w w') := by
        refine (num_yes h.rd n hw (by omega) hs (by omega)).mono ?_
        rintro e w' ⟨rfl, h1, h2⟩
        exact ⟨rfl, ⟨h.box.only8 h2 hne, h1, h.lt⟩, h2⟩
      clear h hw hs
      generalize leN (seg bs a n) = v at *
      go_enter Try.func37, Try.ntmps37
      go_wp2_with fail
      refine Calls.mono HN.out ?_
      rintro e w1 ⟨rfl, h1, h2⟩
      have tc1 := h1.box.cell
      have tm1 := h1.box.melt
      have H1 : Hid (Rx (w1.setCell ⟨rr, 1, none⟩ (.int .i64 0)) rr rb bs (a + n, 0)) := h1.set 0
      clear h1 tc tm
      go_wp2
      go_ret
      exact ⟨ret_int (by rw [HV.out.1]), by rw [HV.out.2]; exact H1.out, h2.onl.setCell _ _⟩
    · have HV : Hid (nuV bs (a, 0) n = 0 ∧ nuS bs (a, 0) n = (a, 1)) := ⟨by simp [nuV, hs], by simp [nuS, hs]⟩
      have HN : Hid (Calls Try.prog 44 #[.pointer (some ⟨rb, 0, none⟩), .int .i64 (n : Int)] w fun e w' => e = .returned (.tuple #[.int .u64 0, .int .i64 1]) ∧ Rx w' rr rb bs (a, 0) ∧ Only rb w w') := by
        refine (num_short h.rd n hw (by omega)).mono ?_
        rintro e w' ⟨rfl, m, rfl⟩
        exact ⟨rfl, h.later (Below.drewN (Below.refl _ _) m), (Only.refl _ _).drewN m⟩
      clear h hw hs
      go_enter Try.func37, Try.ntmps37
      go_wp2_with fail
      refine Calls.mono HN.out ?_
      rintro e w1 ⟨rfl, h1, h2⟩
      have tc1 := h1.box.cell
      have tm1 := h1.box.melt
      have H1 : Hid (Rx (w1.setCell ⟨rr, 1, none⟩ (.int .i64 1)) rr rb bs (a, 1)) := h1.set 1
      clear h1 tc tm
      go_wp2
      go_ret
      exact ⟨ret_int (by rw [HV.out.1]; rfl), by rw [HV.out.2]; exact H1.out, h2.onl.setCell _ _⟩
  · have HV : Hid (nuV bs (a, er) n = 0 ∧ nuS bs (a, er) n = (a, er)) := ⟨by simp [nuV, he], by simp [nuS, he]⟩
    have H : Hid (Rx w rr rb bs (a, er)) := h
    have he' : (er != 0) = true := by simpa using he
    clear h
    go_enter Try.func37, Try.ntmps37
    go_wp2
    go_ret
    exact ⟨ret_int (by rw [HV.out.1]; rfl), by rw [HV.out.2]; exact H.out, Onl.refl _ _ _⟩

set_option maxHeartbeats 1000000 in
theorem want_any {w : World} {rr rb : Nat} {bs : List UInt8} {s : St} (h : Rx w rr rb bs s) (b : Bool) :
    Calls Try.prog 39 #[.pointer (some ⟨rr, 0, none⟩), .bool b] w fun e w' => e = .returned (.tuple #[]) ∧ Rx w' rr rb bs (waS s b) ∧ Onl rr rb w w' := by
  obtain ⟨a, er⟩ := s
  have tc := h.box.cell
  have tm := h.box.melt
  by_cases he : er = 0
  · subst he
    cases b with
    | true =>
      have H : Hid (Rx w rr rb bs (waS (a, 0) true)) := h
      clear h
      go_enter Try.func39, Try.ntmps39
      go_wp2
      go_end0
      exact ⟨rfl, H.out, Onl.refl _ _ _⟩
    | false =>
      have H : Hid (Rx (w.setCell ⟨rr, 1, none⟩ (.int .i64 2)) rr rb bs (waS (a, 0) false)) := h.set 2
      clear h
      go_enter Try.func39, Try.ntmps39
      go_wp2
      go_end0
      exact ⟨rfl, H.out, (Onl.refl _ _ _).setCell _ _⟩
  · have H : Hid (Rx w rr rb bs (waS (a, er) b)) := h.back (by simp [waS, he])
    have he' : (er == 0) = false := by simpa using he
    clear h
    go_enter Try.func39, Try.ntmps39
    go_wp2
    go_end0
    exact ⟨rfl, H.out, Onl.refl _ _ _⟩

set_option maxHeartbeats 1000000 in
theorem zeros_any {w : World} {rr rb : Nat} {bs : List UInt8} {s : St} (h : Rx w rr rb bs s) (n : Nat) (hn : n ≤ 4) :
    Calls Try.prog 40 #[.pointer (some ⟨rr, 0, none⟩), .int .i64 (n : Int)] w fun e w' => e = .returned (.tuple #[]) ∧ Rx w' rr rb bs (zeS bs s n) ∧ Onl rr rb w w' := by
  go_enter Try.func40, Try.ntmps40
  go_wp2
  go_loopw [5] (fun z wr => ∃ q : Nat, q ≤ n ∧ z = .int .i64 (q : Int) ∧ Rx wr rr rb bs (zeS bs s q) ∧ Onl rr rb w wr) (fun z _ => n - (intOf z).toNat)
  case atStart => exact ⟨0, Nat.zero_le _, rfl, h, Onl.refl _ _ _⟩
  case round =>
    obtain ⟨q, hq, rfl, hR, hO⟩ := hrel
    clear h
    have HO : Hid (Onl rr rb w wr) := hO
    clear hO
    by_cases hqn : q < n
    · have HN : Hid (Calls Try.prog 37 #[.pointer (some ⟨rr, 0, none⟩), .int .i64 1] wr fun e w' => e = .returned (.int .i64 (nuV bs (zeS bs s q) 1 : Int)) ∧ Rx w' rr rb bs (nuS bs (zeS bs s q) 1) ∧ Onl rr rb wr w') := number8_any hR 1 (by omega)
      have HZ : Hid (zeS bs s (q + 1) = waS (nuS bs (zeS bs s q) 1) (decide (nuV bs (zeS bs s q) 1 = 0))) := rfl
      clear hR
      generalize nuV bs (zeS bs s q) 1 = v at *
      go_wp2_with fail
      refine Calls.mono HN.out ?_
      rintro e w1 ⟨rfl, h1, h2⟩
      have hd : ((v : Int) == 0) = decide (v = 0) := by by_cases h : v = 0 <;> simp [h]
      have HW : Hid (Calls Try.prog 39 #[.pointer (some ⟨rr, 0, none⟩), .bool ((v : Int) == 0)] w1 fun e w' => e = .returned (.tuple #[]) ∧ Rx w' rr rb bs (zeS bs s (q + 1)) ∧ Onl rr rb w1 w') := by
        rw [HZ.out, hd]
        exact want_any h1 _
      clear h1 hd HN
      go_wp2_with fail
      refine Calls.mono HW.out ?_
      rintro e w2 ⟨rfl, h3, h4⟩
      have H3 : Hid (Rx w2 rr rb bs (zeS bs s (q + 1))) := h3
      clear h3 HW
      go_wp2
      go_roundw
      case rel => exact ⟨q + 1, by omega, by go_num, H3.out, HO.out.trans (h2.trans h4)⟩
      case measure => simp [intOf]; omega
    · have hqq : q = n := by omega
      subst hqq
      have HR : Hid (Rx wr rr rb bs (zeS bs s q)) := hR
      clear hR
      go_wp2
      go_end0
      exact ⟨rfl, HR.out, HO.out⟩

end Go.Proofs.Ytfgjlljbpcombaa
