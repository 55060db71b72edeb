
/- put and putRow of rows. -/
import Derived.Test.YtjmjpdamhondkaaFits4
import Derived.Test.YtjmjpdamhondkaaAps
import Derived.Test.YtjmjpdamhondkaaConv
import Derived.Test.YtjmjpdamhondkaaPut
import Derived.Test.YtjmjpdamhondkaaRefNum
import Derived.Deep.RegionHeld3
namespace Go.Proofs.Ytjmjpdamhondkaa
set_option linter.unusedVariables false
set_option linter.unusedSimpArgs false
open Go.RowKit Go.Maps

theorem Ap.trans {w0 w1 w2 : World} {base : Nat} {v0 v1 v2 : Value} {xs ys : List UInt8} (h : Ap w0 w1 base v0 v1 xs) (k : Ap w1 w2 base v1 v2 ys) : Ap w0 w2 base v0 v2 ys := by
  refine ⟨k.own, ⟨k.grown.os.trans h.grown.os, k.grown.tape.trans h.grown.tape, k.grown.output.trans h.grown.output, Nat.le_trans h.grown.size k.grown.size, fun j hj hr => (k.grown.block j (Nat.lt_of_lt_of_le hj h.grown.size) ?_).trans (h.grown.block j hj hr)⟩, ?_, k.top⟩
  · rcases h.place with e | ⟨i, e, hi⟩
    · rw [e]; exact hr
    · rw [e]; intro ee; simp at ee; omega
  · rcases k.place with e | ⟨i, e, hi⟩
    · rw [e]; exact h.place
    · exact .inr ⟨i, e, Nat.le_trans h.grown.size hi⟩

theorem own_typed {w : World} {base : Nat} {e : TypeId} {v : Value} {xs : List UInt8} (h : Own w base e v xs) : ∀ k, v.ownBlock = some k → ∃ C, w.heap[k]? = some (.cells C e (0, 0)) := h.v.typed

/-- An iterator is moved on. -/
theorem Ap.iter {w0 w : World} {base k c d : Nat} {s : ByteArray} {v0 v : Value} {xs : List UInt8} (h : Ap w0 w base v0 v xs) (hk : w.heap[k]? = some (.stringIter s c)) (hlo : w0.heap.size ≤ k) : Ap w0 (w.iterAt k s d) base v0 v xs := by
  refine ⟨(h.own.v.of_block fun j hj _ => Lib.iterAt_other w k j s d ?_).own, ⟨h.grown.os, h.grown.tape, h.grown.output, by rw [Lib.iterAt_size]; exact h.grown.size, fun j hj hr => (Lib.iterAt_other w k j s d (by omega)).trans (h.grown.block j hj hr)⟩, h.place, by rw [Lib.iterAt_size]; exact h.top⟩
  intro e
  subst e
  obtain ⟨C, hC⟩ := own_typed h.own j hj
  rw [hk] at hC; cases hC
theorem Ap.keeps_iter {w w' : World} {base k c : Nat} {s : ByteArray} {v v' : Value} {xs ys : List UInt8} (ho : Own w base 5 v xs) (h : Ap w w' base v v' ys) (hk : w.heap[k]? = some (.stringIter s c)) : w'.heap[k]? = some (.stringIter s c) := by
  rw [← hk]
  refine h.grown.block k (Array.getElem?_eq_some_iff.1 hk).1 fun e => ?_
  obtain ⟨C, hC⟩ := own_typed ho k e.symm
  rw [hk] at hC; cases hC

set_option maxHeartbeats 1000000 in
theorem put4_any {w : World} {base : Nat} {v : Value} {bs : List UInt8} (hv : Own w base 5 v bs) (hbase : base ≤ w.heap.size) (hb : bs.length ≤ 1000000000) (x n : Nat) (hx : x < 9223372036854775808) (hw : wideB (n : Int) = true) (hn1 : 1 ≤ n) (hn8 : n ≤ 8) :
    Calls Try.prog 33 #[v, .int .i64 (x : Int), .int .i64 (n : Int)] w fun e w' => ∃ v', e = .returned v' ∧ Ap w w' base v v' (bs ++ leL x n) := by
  have HV : Hid (Ap w w base v v bs) := Ap.refl hv hbase
  have HP : Hid (Calls Try.prog 44 #[.slice none 0 0, .int .u64 (x : Int), .int .i64 (n : Int)] w fun e w' => e = .returned (.tuple #[.slice (some ⟨w.heap.size, 0, none⟩) n n, .int .i64 0]) ∧
      w' = w.alloc (.cells (u8s (leL x n)).toArray 5)) := by
    have := put_yes (Bs.nil w) (by simp) x n (by omega) hw hn1 hn8
    simp only [List.length_nil, Nat.zero_add, List.nil_append] at this
    exact this
  clear hv
  go_enter Try.func33, Try.ntmps33
  go_wp2_with fail
  refine HP.out.mono ?_
  rintro e w1 ⟨rfl, hz⟩
  have hb1 : Below w.heap.size w w1 := by rw [hz]; exact (Below.refl _ _).alloc (Nat.le_refl _) _
  have HV1 : Hid (Ap w w1 base v v bs) := HV.out.later hb1
  have HB1 : Hid (Bs w1 (.slice (some ⟨w.heap.size, 0, none⟩) n n) (leL x n)) := by
    have := Bs.made w (leL x n) 5 (by rw [leL_length]; unfold maxLen; omega)
    rw [leL_length] at this
    rw [hz]; exact this
  clear hz hb1 HP
  go_wp2_with (at_builtin; go_must (refine wpList_append_at rfl _ _ _ _ rfl base 5 (.int .u8 0) 1 Try.underlying22 Try.infoU8 rfl rfl rfl HV1.out.own.v (HB1.out.src Try.underlying22) (by rw [u8s_length, leL_length]; unfold maxLen; omega) (by rw [u8s_length, leL_length]; omega) HV1.out.top ?_))
  intro v2 w2 ho2 hg2 hp2 _
  have HA : Hid (Ap w w2 base v v2 (bs ++ leL x n)) := HV1.out.app ho2 hg2 hp2
  clear ho2 hg2 hp2
  go_wp2_with fail
  go_ret
  exact ⟨_, rfl, HA.out⟩

theorem rowB_step {t c : Nat} {l : List Int} (h : c < l.length) : rowB t 0 (l.take (c + 1)) = rowB t 0 (l.take c) ++ leL (l[c]).toNat (widR t c 0) := by
  rw [List.take_succ_eq_append_getElem h, rowB_append]
  have : (l.take c).length = c := by simp; omega
  simp [this, rowB]
theorem wide_of {n : Nat} (h : n = 2 ∨ n = 4) : wideB (n : Int) = true ∧ 1 ≤ n ∧ n ≤ 8 := by
  rcases h with rfl | rfl <;> exact ⟨rfl, by omega, by omega⟩
theorem rowB_le (t : Nat) : ∀ (l : List Int) (c : Nat), (rowB t c l).length ≤ 4 * l.length
  | [], c => by simp [rowB]
  | x :: l, c => by
    have := rowB_le t l (c + 1)
    have hw := widR_cases t c 0
    simp only [rowB, List.length_append, leL_length, List.length_cons]
    omega

set_option maxHeartbeats 1000000 in
theorem putRow_any {w : World} {base : Nat} {v rv : Value} {bs : List UInt8} {l : List Int} (t : Nat) (hv : Own w base 5 v bs) (hbase : base ≤ w.heap.size) (hrv : ∀ W, Below base w W → In1 W rv l) (hl : l.length = colsR t) (hf : rowFits t 0 l = true) (hb : bs.length ≤ 900000000) :
    Calls Try.prog 34 #[v, .int .i64 (t : Int), rv] w fun e w' => ∃ v', e = .returned v' ∧ Ap w w' base v v' (bs ++ rowB t 0 l) := by
  have HA0 : Hid (Ap w w base v v bs) := Ap.refl hv hbase
  have HV : Hid (∀ W, Below base w W → In1 W rv l) := hrv
  have hlk : ∀ k, v.ownBlock = some k → base ≤ k := fun k hk => (hv.block k hk).1
  have HLK : Hid (∀ k, v.ownBlock = some k → base ≤ k) := hlk
  obtain ⟨a, cp, rfl, hc1, hc2⟩ := (hrv w (Below.refl _ _)).shape
  unfold maxLen at hc2
  have h6 : colsR t ≤ 6 := by unfold colsR; split <;> omega
  have HFF : Hid (rowFits t 0 l = true) := hf
  have HRL : Hid (∀ c, (rowB t 0 (l.take c)).length ≤ 24) := fun c => by
    have := rowB_le t (l.take c) 0
    have h2 : (l.take c).length ≤ l.length := by rw [List.length_take]; omega
    show _ ≤ _
    omega
  clear hv hrv hf hlk
  generalize hll : l.length = ll at *
  have HLL : Hid (l.length = ll) := hll
  have HL : Hid (ll = colsR t) := hl
  clear hll hl
  go_enter Try.func34, Try.ntmps34
  go_wp2_with (go_at_call 37; refine (signs_any _ _).mono ?_; rintro e wz ⟨rfl, hz⟩; subst wz)
  go_loopw [0] (fun u wr => ∃ c : Nat, c ≤ ll ∧ wr.heap[w.heap.size]? = some (.stringIter (sgB (t : Int)) c) ∧ Ap w wr base v u (bs ++ rowB t 0 (l.take c))) (fun _ wr => ll - wr.iterPos w.heap.size)
  case atStart => exact ⟨0, Nat.zero_le _, World.iter_heap _ _ _, by simp only [List.take_zero, rowB, List.append_nil]; exact HA0.out.later ((Below.refl _ _).alloc (Nat.le_refl _) _)⟩
  case round =>
    obtain ⟨c, hcl, hit, hap⟩ := hrel
    have HA : Hid (Ap w wr base v u0 (bs ++ rowB t 0 (l.take c))) := hap
    have HMP : Hid (wr.iterPos w.heap.size = c) := by show _ = _; simp [World.iterPos, hit]
    clear hap
    by_cases hlt : c < ll
    · obtain ⟨s, hs, hnx⟩ := next_sign (P := Try.prog) wr w.heap.size t c hit (by have := HL.out; omega)
      have HA2 : Hid (Ap w (wr.iterAt w.heap.size (sgB (t : Int)) (c + 1)) base v u0 (bs ++ rowB t 0 (l.take c))) := HA.out.iter hit (Nat.le_refl _)
      have HI2 : Hid ((wr.iterAt w.heap.size (sgB (t : Int)) (c + 1)).heap[w.heap.size]? = some (.stringIter (sgB (t : Int)) (c + 1))) := Lib.iterAt_heap wr _ _ c _ hit
      clear hit HA
      generalize hwn : wr.iterAt w.heap.size (sgB (t : Int)) (c + 1) = wn at *
      clear hwn
      have hbn : Below base w wn := HA2.out.below HLK.out hbase
      have hlc : c < l.length := by rw [HLL.out]; exact hlt
      have HCE : Hid (∀ W, Below base w W → ∃ b off, a = some ⟨b, off, none⟩ ∧ W.cell? ⟨b, off + c, none⟩ = some (.int .i64 l[c])) := fun W hW => by
        obtain ⟨a', cp', he, _, _, h3⟩ := HV.out W hW
        simp only [Value.slice.injEq] at he
        obtain ⟨rfl, -, rfl⟩ := he
        obtain ⟨b, off, rfl, hbl, hcell⟩ := h3 (by intro e; rw [List.map_eq_nil_iff] at e; subst e; simp at hlc)
        have hcl2 := hcell c (by simpa using hlc)
        rw [List.getElem_map] at hcl2
        exact ⟨b, off, rfl, hcl2⟩
      have hfg := rowFits_get t l 0 c hlc HFF.out
      rw [Nat.zero_add] at hfg
      obtain ⟨n, hn, hn2⟩ := fits_nat hfg
      clear hfg
      have HSTEP : Hid (rowB t 0 (l.take (c + 1)) = rowB t 0 (l.take c) ++ leL n (widR t c 0)) := by
        show _ = _
        rw [rowB_step hlc, hn]; rfl
      rw [hn] at HCE
      have hw := widR_cases t c 0
      obtain ⟨hw1, hw2, hw3⟩ := wide_of hw
      have hn3 : n < 4294967296 := by
        rcases hw with e | e <;> rw [e] at hn2 <;> omega
      have hs0 := hs 0 (by omega)
      have HW : Hid (∀ W, Calls Try.prog 45 #[.int .i32 s, .int .u64 0] W fun e w' => e = .returned (.int .i64 (widR t c 0 : Int)) ∧ w' = W) := fun W => by
        have := width_any s 0 (by omega) W
        rw [hs0] at this
        exact this
      have hrl := HRL.out c
      have HPT : Hid (∀ W, Below wn.heap.size wn W → Calls Try.prog 33 #[u0, .int .i64 (n : Int), .int .i64 (widR t c 0 : Int)] W fun e w' => ∃ v', e = .returned v' ∧ Ap W w' base u0 v' (bs ++ rowB t 0 (l.take c) ++ leL n (widR t c 0))) := fun W hW => put4_any (HA2.out.later hW).own (HA2.out.later hW).top (by rw [List.length_append]; omega) n _ (by omega) hw1 hw2 hw3
      clear hs0 hn2 hw hs hn
      generalize widR t c 0 = wd at *
      obtain ⟨b, off, rfl, hcell⟩ := HCE.out wn hbn
      have HCF : Hid (∀ W, Below base w W → W.cell? ⟨b, off + c, none⟩ = some (.int .i64 (n : Int))) := fun W hW => by
        obtain ⟨b', off', he, h⟩ := HCE.out W hW
        simp only [Option.some.injEq, Addr.mk.injEq, and_true] at he
        obtain ⟨rfl, rfl⟩ := he
        exact h
      clear HCE
      go_wp2_with fail
      go_region_held3 (fun w' => w'.cell? ⟨b, off + c, none⟩ = some (.int .i64 (n : Int))) (first | go_keep | (exact HCF.out _ hb4))
        (first
          | (go_at_call 45; refine (HW.out _).mono ?_; rintro e w3 ⟨rfl, rfl⟩)
          | (go_at_call 33; refine (HPT.out _ (Below.drewN (Below.refl _ _) 1)).mono ?_; rintro e w4 ⟨v4, rfl, hap4⟩; have hap5 := (HA2.out.later (Below.drewN (Below.refl _ _) 1)).trans hap4; have hb4 : Below base w w4 := hap5.below HLK.out hbase))
      rename_i hheld
      clear hheld
      have HA5 : Hid (Ap w w4 base v v4 (bs ++ rowB t 0 (l.take (c + 1)))) := by
        have := hap5
        rw [List.append_assoc, ← HSTEP.out] at this
        exact this
      have HI5 : Hid (w4.heap[w.heap.size]? = some (.stringIter (sgB (t : Int)) (c + 1))) := Ap.keeps_iter (HA2.out.later (Below.drewN (Below.refl _ _) 1)).own hap4 HI2.out
      clear hap4 hap5 hb4
      go_wp2_with fail
      go_roundw
      case rel => exact ⟨c + 1, by omega, HI5.out, HA5.out⟩
      case measure =>
        have h1 : w4.iterPos w.heap.size = c + 1 := by simp [World.iterPos, HI5.out]
        rw [HMP.out, h1]; omega
    · have hnx := fun ty => next_done (P := Try.prog) wr w.heap.size t c hit (by have := HL.out; omega) ty
      have HF : Hid (Ap w wr base v u0 (bs ++ rowB t 0 l)) := by
        have := HA.out
        rw [List.take_of_length_le (by have := HLL.out; omega)] at this
        exact this
      go_wp2_with fail
      go_ret
      exact ⟨_, rfl, HF.out⟩

end Go.Proofs.Ytjmjpdamhondkaa
