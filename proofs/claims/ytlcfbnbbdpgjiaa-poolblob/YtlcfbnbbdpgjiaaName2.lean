
/- Name of the pool, and of the references; the example of layer 2's statements. -/
import Derived.Test.YtlcfbnbbdpgjiaaRows
import Derived.Test.YtlcfbnbbdpgjiaaNames
import Derived.Lib.BytesEntry
import Derived.Laws.Externs
import Derived.Laws.BytesArg
namespace Go.Proofs.Ytlcfbnbbdpgjiaa
set_option linter.unusedVariables false
set_option linter.unusedSimpArgs false
open Go.RowKit Go.Maps

/-- What stands up to the first byte 0. -/
def tw (bs : List UInt8) : List UInt8 := bs.takeWhile fun b => b != 0
theorem tw_le (bs : List UInt8) : (tw bs).length ≤ bs.length := (List.takeWhile_sublist _).length_le
theorem tw_prefix (bs : List UInt8) : tw bs = bs.take (tw bs).length := by
  have := List.takeWhile_prefix (p := fun b : UInt8 => b != 0) (l := bs)
  exact (List.prefix_iff_eq_take.1 this)

theorem idx_tw : ∀ bs : List UInt8, Lib.indexByte bs 0 = if (tw bs).length = bs.length then -1 else ((tw bs).length : Int)
  | [] => by simp [Lib.indexByte, tw]
  | b :: l => by
    have ih := idx_tw l
    have hle := tw_le l
    by_cases h : b = 0
    · subst h; simp [Lib.indexByte, tw]
    · have ht : tw (b :: l) = b :: tw l := by simp [tw, h]
      rw [ht]
      simp only [Lib.indexByte, beq_iff_eq, h, if_false, ih, List.length_cons]
      by_cases e : (tw l).length = l.length
      · simp [e]
      · rw [if_neg e, if_neg (by omega), if_neg (by omega)]; omega

theorem convert_bs {w : World} {v : Value} {bs : List UInt8} (h : Bs w v bs) : (convert 27 9 v).run Try.prog w = .ok (.string ⟨bs.toArray⟩) w := by
  obtain ⟨a, cap, rfl, h1, h2, h3⟩ := h
  cases a with
  | none =>
    have hys : bs = [] := by
      by_cases h : bs = []
      · exact h
      · obtain ⟨b, off, hh, _⟩ := h3 h; simp at hh
    subst hys
    exact run_convert_bytes_nil w 27 5 Try.underlying27 Try.underlying5 _ _ _ Try.underlying9
  | some ad =>
    refine run_convert_bytes_back w 27 9 5 ad cap bs Try.underlying27 Try.underlying5 Try.underlying9 fun j hj => ?_
    obtain ⟨b, off, hh, _, hc⟩ := h3 (by intro e; subst e; simp at hj)
    simp only [Option.some.injEq] at hh
    subst hh
    have hplain : (⟨b, off, none⟩ : Addr).add j = ⟨b, off + j, none⟩ := by unfold Addr.add; split <;> simp_all
    rw [hplain]; exact hc j hj

/-- The model's own IndexByte, of any slice of bytes. -/
theorem run_index0 {w : World} {v : Value} {bs : List UInt8} (h : Bs w v bs) (hne : bs ≠ []) : (callFunc 32 #[v, .int .u8 0]).run Try.prog w = .ok (.value (.int .i64 (Lib.indexByte bs 0))) w := by
  rw [run_callFunc_extern Try.func32 (by kernel_rfl) (by kernel_rfl) (by kernel_rfl) (e := Extern.BytealgIndexByte.indexByte) (by kernel_rfl)]
  obtain ⟨a, cap, rfl, h1, h2, h3⟩ := h
  have hbe : ∀ l : List UInt8, Lib.bytesOf (l.map fun b => (b.toNat : Int)) = l := by
    intro l; simp [Lib.bytesOf, Function.comp_def]
  obtain ⟨b, off, rfl, _, hc⟩ := h3 hne
  have := Lib.run_indexByteSlice (P := Try.prog) w b off bs.length cap (bs.map fun b => (b.toNat : Int)) (by simp) (fun i hi => by rw [hc i hi]; simp [List.getD, List.getElem?_eq_getElem hi]) 0
  rw [hbe] at this
  rw [this]; rfl

theorem index_any {w : World} {v : Value} {bs : List UInt8} (h : Bs w v bs) (hne : bs ≠ []) :
    Calls Try.prog 25 #[v, .int .u8 0] w fun e w' => e = .returned (.int .i64 (Lib.indexByte bs 0)) ∧ w' = w := by
  have hr := run_index0 h hne
  obtain ⟨a, cap, rfl, h1, h2, h3⟩ := h
  clear h3
  go_enter Try.func25, Try.ntmps25
  go_wp2_with fail
  go_ret
  exact ⟨rfl, rfl⟩

/-- 'v[lo:]' of a slice of bytes. -/
theorem slice_from {P : Program} {w : World} {a : Option Addr} {cap : Nat} {bs : List UInt8} (hv : Bs w (.slice a bs.length cap) bs) (lo : Nat) (h : lo ≤ bs.length) (t e : TypeId) (ht : P.underlying t = some (.slice e)) (hs : (P.info? e).map (·.size) = some 1) :
    ∃ a' cap', (∀ (W : World) (k1 : IntKind), (Instr.slice t (.slice a bs.length cap) (some (.int k1 (lo : Int))) none none).run P W = .ok (.slice a' (bs.length - lo) cap') W) ∧ Bs w (.slice a' (bs.length - lo) cap') (bs.drop lo) ∧
      (∀ k, (Value.slice a' (bs.length - lo) cap').ownBlock = some k → (Value.slice a bs.length cap).ownBlock = some k) := by
  obtain ⟨a', cap', h1, h2, h3⟩ := slice_bs (P := P) hv lo (bs.length - lo) (by omega) t e ht hs
  have hseg : seg bs lo (bs.length - lo) = bs.drop lo := by unfold seg; rw [List.take_of_length_le (by simp)]
  rw [hseg] at h2
  refine ⟨a', cap', fun W k1 => ?_, h2, h3⟩
  have := h1 W k1 .i64
  rw [show (lo : Int) + ((bs.length - lo : Nat) : Int) = (bs.length : Int) by omega] at this
  rw [← this]
  have hcap : bs.length ≤ cap := by obtain ⟨_, _, he, g1, _⟩ := hv; simp only [Value.slice.injEq] at he; omega
  have b1 : (Instr.sliceBound (.int .i64 (bs.length : Int)) cap .sliceAcap).run P W = .ok bs.length W := by rw [run_sliceBound _ _ _ _ _ (by omega) (by omega)]; simp
  simp [Instr.slice, run_underlying ht, Instr.sliceBounds, b1]

/-- What Name answers: the name (or none), and the error. -/
def nameS (bs : List UInt8) (at_ : Nat) : List UInt8 := if fineB (tw (bs.drop at_)) = true then if (tw (bs.drop at_)).length = (bs.drop at_).length then [] else tw (bs.drop at_) else []
def nameE (bs : List UInt8) (at_ : Nat) : Int := if (tw (bs.drop at_)).length = (bs.drop at_).length then 1 else if fineB (tw (bs.drop at_)) = true then 0 else 18

theorem name_out {w : World} {a : Option Addr} {len cap : Nat} (hl : len ≤ cap) (hc : cap ≤ maxLen) (n : Int) (h : n < 1 ∨ (len : Int) ≤ n) :
    Calls Try.prog 15 #[.slice a len cap, .int .i64 n] w fun e w' => e = .returned (.tuple #[.string ⟨#[]⟩, .int .i64 3]) ∧ w' = w := by
  unfold maxLen at hc
  by_cases h1 : n < 1
  · clear h
    go_enter Try.func15, Try.ntmps15
    go_wp2_with fail
    go_ret2
    exact ⟨rfl, rfl⟩
  · have h2 : (len : Int) ≤ n := by omega
    clear h
    go_enter Try.func15, Try.ntmps15
    go_wp2_with fail
    go_ret2
    exact ⟨rfl, rfl⟩

set_option maxHeartbeats 400000 in
theorem name_in {w : World} {v : Value} {bs : List UInt8} (hv : Bs w v bs) (n : Nat) (h1 : 1 ≤ n) (h2 : n < bs.length) (hs : bs.length ≤ 281474976710656) :
    Calls Try.prog 15 #[v, .int .i64 (n : Int)] w fun e w' => e = .returned (.tuple #[.string ⟨(nameS bs n).toArray⟩, .int .i64 (nameE bs n)]) ∧ w' = w := by
  have hv0 := hv
  obtain ⟨a, cap, rfl, g1, g2, -⟩ := hv0
  unfold maxLen at g2
  obtain ⟨a1, c1, hr1, hb1, -⟩ := slice_from (P := Try.prog) hv n (by omega) 27 5 Try.underlying27 sizeU8
  have HB1 : Hid (Bs w (.slice a1 (bs.length - n) c1) (bs.drop n)) := hb1
  clear hb1
  have hidx := idx_tw (bs.drop n)
  have hle := tw_le (bs.drop n)
  have hdl : (bs.drop n).length = bs.length - n := by simp
  by_cases hfull : (tw (bs.drop n)).length = (bs.drop n).length
  · rw [if_pos hfull] at hidx
    have HS : Hid (nameS bs n = []) := by show _ = _; unfold nameS; split <;> simp [hfull]
    have HE : Hid (nameE bs n = 1) := by show _ = _; unfold nameE; rw [if_pos hfull]
    clear hle hdl hfull
    go_enter Try.func15, Try.ntmps15
    go_wp2_with fail
    refine (index_any HB1.out (by intro e; have := congrArg List.length e; simp at this; omega)).mono ?_
    rintro e wz ⟨rfl, hz⟩
    subst wz
    rw [hidx]
    go_wp2_with fail
    go_ret2
    rw [HS.out, HE.out]
    exact ⟨rfl, rfl⟩
  · rw [if_neg hfull] at hidx
    have hlt : (tw (bs.drop n)).length < (bs.drop n).length := by omega
    obtain ⟨a2, c2, hr2, hb2, -⟩ := slice_bs (P := Try.prog) hv n (tw (bs.drop n)).length (by omega) 27 5 Try.underlying27 sizeU8
    have hseg : seg bs n (tw (bs.drop n)).length = tw (bs.drop n) := by unfold seg; exact (tw_prefix _).symm
    rw [hseg] at hb2
    have hcv := convert_bs hb2
    have HSF : Hid (fineB (tw (bs.drop n)) = true → nameS bs n = tw (bs.drop n)) := fun hf => by unfold nameS; rw [if_pos hf, if_neg hfull]
    have HSN : Hid (fineB (tw (bs.drop n)) = false → nameS bs n = []) := fun hf => by unfold nameS; rw [if_neg (by rw [hf]; simp)]
    have HEF : Hid (fineB (tw (bs.drop n)) = true → nameE bs n = 0) := fun hf => by unfold nameE; rw [if_neg hfull, if_pos hf]
    have HEN : Hid (fineB (tw (bs.drop n)) = false → nameE bs n = 18) := fun hf => by unfold nameE; rw [if_neg hfull, if_neg (by rw [hf]; simp)]
    clear hb2 hseg
    generalize tw (bs.drop n) = t at *
    have hfa := fun W => fine_any ⟨t.toArray⟩ W
    simp only at hfa
    have HFA : Hid _ := hfa
    clear hfa hfull hle
    cases hf : fineB t with
    | true =>
      go_enter Try.func15, Try.ntmps15
      go_wp2_with fail
      refine (index_any HB1.out (by intro e; have := congrArg List.length e; simp at this; omega)).mono ?_
      rintro e wz ⟨rfl, hz⟩
      subst wz
      rw [hidx]
      go_wp2_with fail
      refine (HFA.out _).mono ?_
      rintro e wz ⟨rfl, hz⟩
      subst wz
      rw [hf]
      go_wp2_with fail
      go_ret2
      rw [HSF.out hf, HEF.out hf]
      exact ⟨rfl, rfl⟩
    | false =>
      go_enter Try.func15, Try.ntmps15
      go_wp2_with fail
      refine (index_any HB1.out (by intro e; have := congrArg List.length e; simp at this; omega)).mono ?_
      rintro e wz ⟨rfl, hz⟩
      subst wz
      rw [hidx]
      go_wp2_with fail
      refine (HFA.out _).mono ?_
      rintro e wz ⟨rfl, hz⟩
      subst wz
      rw [hf]
      go_wp2_with fail
      go_ret2
      rw [HSN.out hf, HEN.out hf]
      exact ⟨rfl, rfl⟩

end Go.Proofs.Ytlcfbnbbdpgjiaa
