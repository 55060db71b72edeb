
/- The small functions of streams: put, pad, begin, entry, Clone. -/
import Derived.Test.YtbehcdpjpjklfaaRows
import Derived.Test.YtbehcdpjpjklfaaParts
import Derived.Test.YtbehcdpjpjklfaaRefNum
import Derived.Test.YtbehcdpjpjklfaaConv
namespace Go.Proofs.Ytbehcdpjpjklfaa
set_option linter.unusedVariables false
set_option linter.unusedSimpArgs false
open Go.RowKit Go.Maps
attribute [local go_sem ↓] Go.wp_at_zero Go.wp_at_succ

/-- put: the number's bytes behind what was there, in a new row. -/
theorem put3_any {v : Value} {bs : List UInt8} {w : World} (hv : Bs w v bs) (hb : bs.length ≤ 1000000000) (x n : Nat) (hx : x < 9223372036854775808) (hw : wideB (n : Int) = true) (hn1 : 1 ≤ n) (hn8 : n ≤ 8) :
    Calls Try.prog 28 #[v, .int .i64 (x : Int), .int .i64 (n : Int)] w fun e w' => e = .returned (.slice (some ⟨w.heap.size, 0, none⟩) (bs.length + n) (bs.length + n)) ∧
      w' = w.alloc (.cells (u8s (bs ++ leL x n)).toArray 5) := by
  go_enter Try.func28, Try.ntmps28
  go_wp2_with fail
  refine (put_yes hv (by omega) x n (by omega) hw hn1 hn8).mono ?_
  rintro e w1 ⟨rfl, hz⟩
  have HZ : Hid _ := hz
  clear hz
  go_wp2_with fail
  go_ret
  exact ⟨rfl, HZ.out⟩

/-- What an append, or some of them, have made of a row. -/
structure Ap (w0 w : World) (base : Nat) (v0 v : Value) (xs : List UInt8) : Prop where
  own : Own w base 5 v xs
  grown : w0.grownBy w v0.ownBlock
  place : v.ownBlock = v0.ownBlock ∨ ∃ k, v.ownBlock = some k ∧ w0.heap.size ≤ k
  top : base ≤ w.heap.size

theorem Ap.refl {w : World} {base : Nat} {v : Value} {xs : List UInt8} (h : Own w base 5 v xs) (hb : base ≤ w.heap.size) : Ap w w base v v xs := ⟨h, ⟨rfl, rfl, rfl, Nat.le_refl _, fun _ _ _ => rfl⟩, .inl rfl, hb⟩
theorem Ap.later {w0 w w' : World} {base : Nat} {v0 v : Value} {xs : List UInt8} (h : Ap w0 w base v0 v xs) (hb : Below w.heap.size w w') : Ap w0 w' base v0 v xs :=
  ⟨h.own.later hb, ⟨hb.os.trans h.grown.os, hb.tape.trans h.grown.tape, hb.output.trans h.grown.output, Nat.le_trans h.grown.size hb.size, fun k hk hr => (hb.block k (Nat.lt_of_lt_of_le hk h.grown.size)).trans (h.grown.block k hk hr)⟩, h.place, Nat.le_trans h.top hb.size⟩
theorem Ap.app {w0 w w1 : World} {base : Nat} {v0 v v1 : Value} {xs ys : List UInt8} (h : Ap w0 w base v0 v xs) (ho : OwnV w1 base 5 v1 (u8s xs ++ u8s ys)) (hg : w.grownBy w1 v.ownBlock) (hp : v1.ownBlock = v.ownBlock ∨ v1.ownBlock = some w.heap.size) : Ap w0 w1 base v0 v1 (xs ++ ys) := by
  refine ⟨by rw [← u8s_append] at ho; exact ho.own, ⟨hg.os.trans h.grown.os, hg.tape.trans h.grown.tape, hg.output.trans h.grown.output, Nat.le_trans h.grown.size hg.size, fun k hk hr => (hg.block k (Nat.lt_of_lt_of_le hk h.grown.size) ?_).trans (h.grown.block k hk hr)⟩, ?_, Nat.le_trans h.top hg.size⟩
  · rcases h.place with e | ⟨j, e, hj⟩
    · rw [e]; exact hr
    · rw [e]; intro ee; simp at ee; omega
  · rcases hp with e | e
    · rw [e]; exact h.place
    · exact .inr ⟨_, e, h.grown.size⟩
theorem Ap.below {w0 w : World} {base B : Nat} {v0 v : Value} {xs : List UInt8} (h : Ap w0 w base v0 v xs) (h0 : ∀ k, v0.ownBlock = some k → B ≤ k) (hs : B ≤ w0.heap.size) : Below B w0 w :=
  ⟨h.grown.os, h.grown.tape, h.grown.output, h.grown.size, fun k hk => h.grown.block k (by omega) fun e => by have := h0 k e.symm; omega⟩

def lenV : Value → Nat
  | .slice _ l _ => l
  | _ => 0
theorem Ap.shape {w0 w : World} {base : Nat} {v0 v : Value} {xs : List UInt8} (h : Ap w0 w base v0 v xs) : ∃ a c, v = .slice a xs.length c ∧ xs.length ≤ c ∧ c ≤ maxLen := by
  obtain ⟨a, c, e, h1, h2, _⟩ := h.own.bs
  exact ⟨a, c, e, h1, h2⟩

theorem pad_same {bs : List UInt8} (h : bs.length % 4 = 0) : pad bs = bs := by unfold pad; rw [up4_same h]; simp
theorem pad_more {bs : List UInt8} (h : bs.length % 4 ≠ 0) : pad (bs ++ [0]) = pad bs := by
  unfold pad up4
  rw [List.append_assoc]
  congr 1
  rw [show ([0] : List UInt8) = List.replicate 1 0 from rfl, List.replicate_append_replicate]
  congr 1
  simp
  omega

set_option maxHeartbeats 1000000 in
theorem pad3_any {v : Value} {bs : List UInt8} {w : World} {base : Nat} (hv : Own w base 5 v bs) (hbase : base ≤ w.heap.size) (hb : bs.length ≤ 1000000000) :
    Calls Try.prog 29 #[v] w fun e w' => ∃ v', e = .returned v' ∧ Ap w w' base v v' (pad bs) := by
  have HV : Hid (Ap w w base v v bs) := Ap.refl hv hbase
  clear hv
  go_enter Try.func29, Try.ntmps29
  go_wp2_with fail
  go_loopw [0] (fun u wr => ∃ xs : List UInt8, Ap w wr base v u xs ∧ pad xs = pad bs ∧ xs.length + (4 - xs.length % 4) % 4 ≤ 1000000003) (fun u _ => (4 - lenV u % 4) % 4)
  case atStart => exact ⟨bs, HV.out, rfl, by omega⟩
  case round =>
    obtain ⟨xs, hap, hpd, hl2⟩ := hrel
    have HA : Hid (Ap w wr base v u0 xs) := hap
    have HPD : Hid (pad xs = pad bs) := hpd
    obtain ⟨a, c, rfl, hc1, hc2⟩ := hap.shape
    unfold maxLen at hc2
    clear hap hpd
    generalize hl : xs.length = l at *
    by_cases hm : l % 4 = 0
    · have hme : ((l : Int) % 4 != 0) = false := by rw [bne_eq_false_iff_eq]; omega
      go_wp2_with fail
      go_ret
      exact ⟨_, rfl, by rw [← HPD.out, pad_same (by omega)]; exact HA.out⟩
    · have hme : ((l : Int) % 4 != 0) = true := by rw [bne_iff_ne]; omega
      have HA2 : Hid (Ap w (wr.alloc (Obj.cells #[.int .u8 0] 5)) base v (.slice a l c) xs) := HA.out.later ((Below.refl _ _).alloc (Nat.le_refl _) _)
      go_wp2_with (at_builtin; go_must (refine wpList_append_at rfl _ _ _ _ rfl base 5 (.int .u8 0) 1 Try.underlying22 Try.infoU8 rfl rfl rfl HA2.out.own.v (one_src0 Try.underlying22 _ _ _ _ (by simp) rfl) (by rw [u8s_length]; unfold maxLen; omega) (by rw [u8s_length]; omega) HA2.out.top ?_))
      intro v1 w1 ho1 hg1 hp1 _
      have HA3 : Hid (Ap w w1 base v v1 (xs ++ [0])) := HA2.out.app (ys := [0]) ho1 hg1 (by simpa using hp1)
      have hl3 : (xs ++ [0]).length = l + 1 := by simp [hl]
      have HPD3 : Hid (pad (xs ++ [0]) = pad bs) := by show _ = _; rw [pad_more (by omega), HPD.out]
      obtain ⟨a1, c1, e1, -⟩ := HA3.out.shape
      rw [hl3] at e1
      subst e1
      clear ho1 hg1 hp1
      go_wp2_with fail
      go_roundw
      case rel => exact ⟨xs ++ [0], HA3.out, HPD3.out, by rw [hl3]; omega⟩
      case measure => simp [lenV]; omega

end Go.Proofs.Ytbehcdpjpjklfaa
