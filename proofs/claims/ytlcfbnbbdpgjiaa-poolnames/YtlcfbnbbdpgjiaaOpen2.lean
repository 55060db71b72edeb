
/- From the readings of a row's arguments, lists of texts and of byte slices, to what the walks ask. -/
import Derived.Test.YtlcfbnbbdpgjiaaRows
import Derived.Test.YtlcfbnbbdpgjiaaOpen
import Derived.Test.YtlcfbnbbdpgjiaaInts
import Derived.Deep.Strs
import Derived.Deep.Matrix
namespace Go.Proofs.Ytlcfbnbbdpgjiaa
set_option linter.unusedVariables false
set_option linter.unusedSimpArgs false
open Go.ChangeShapes Go.WideShapes Go.ChangeAt Go.RowKit

theorem Try.bytesStr : Try.prog.bytesOf 9 = 16 := by kernel_rfl

theorem sl_of {W : World} {a : Addr} {len cap : Nat} (xs : List Value) (hx : xs.length = len) (hl : len ≤ cap) (hm : cap ≤ maxLen) (hc : ∀ i (h : i < xs.length), W.cell? (a.add i) = some xs[i]) (hp : 0 < len → ∃ b off, a = ⟨b, off, none⟩ ∧ b < W.heap.size) : Sl W (.slice (some a) len cap) xs := by
  subst hx
  refine ⟨some a, cap, rfl, hl, hm, fun hne => ?_⟩
  obtain ⟨b, off, rfl, hb⟩ := hp (List.length_pos_iff.2 hne)
  refine ⟨b, off, rfl, hb, fun i hi => ?_⟩
  have hplain : (⟨b, off, none⟩ : Addr).add i = ⟨b, off + i, none⟩ := by unfold Addr.add; split <;> simp_all
  rw [← hplain]; exact hc i hi

theorem addr_plain {W : World} {a : Addr} {x : Value} (h : W.cell? (a.add 0) = some x) : ∃ b off, a = ⟨b, off, none⟩ ∧ b < W.heap.size := by
  obtain ⟨b, off, spot⟩ := a
  have hspot : spot = none := by simpa [Addr.add] using World.cell?_spot h
  subst hspot
  exact ⟨b, off, rfl, by have := World.block_lt_of_cell? W _ h; simpa [Addr.add] using this⟩

/-- A list of texts that came in. -/
theorem openSs {H : Type} {enc : TypeId × Value → H} {W : World} {base : Nat} {v : Value} {d : DataW H} {p : List MemPlace}
    (hv : Value.okWide Try.prog W .any base 22 v) (h : DataW.Trod enc Try.prog W 0 (fun _ => true) true 22 v d p) :
    ∃ ss, Ss W v ss ∧ (∀ s ∈ ss, s.size ≤ maxLen) ∧ (ss = [] ∨ ∃ elems spare, d = .slice elems spare ∧ elems.length = ss.length) := by
  obtain ⟨a, len, cap, rfl⟩ := okWide_slice Try.underlying22 hv
  obtain ⟨fuel, hf⟩ := h
  rcases Go.Deep.open_strs Try.underlying22 Try.underlying9 (by kernel_rfl) hf with ⟨hcs, _⟩ | ⟨x, l, c, m, Sx, hcs, _, hl, hm, hmm, hd, hx⟩
  · simp [Value.cells] at hcs
    obtain ⟨rfl, rfl, rfl⟩ := hcs
    exact ⟨[], Sl.nil W, by simp, .inl rfl⟩
  · simp [Value.cells] at hcs
    obtain ⟨rfl, rfl, rfl⟩ := hcs
    simp only [if_true] at hmm
    subst hmm
    simp only [Prod.mk.injEq] at hd
    refine ⟨(List.range len).map Sx, sl_of _ (by simp [strs]) hl hm (fun i hi => ?_) (fun hp => addr_plain (hx 0 (by omega)).1), fun s hs => ?_, .inr ⟨_, _, hd.1, by simp⟩⟩
    · simp only [strs, List.length_map, List.length_range] at hi
      rw [(hx i (by omega)).1]; simp [strs]
    · simp only [List.mem_map, List.mem_range] at hs
      obtain ⟨i, hi, rfl⟩ := hs
      exact (hx i (by omega)).2

/-- A list of slices of bytes that came in. -/
theorem openBss {H : Type} {enc : TypeId × Value → H} {W : World} {base : Nat} {v : Value} {d : DataW H} {p : List MemPlace}
    (hv : Value.okWide Try.prog W .any base 25 v) (h : DataW.Trod enc Try.prog W 0 (fun _ => true) true 25 v d p) : ∃ ls, Bss W v ls := by
  obtain ⟨a, len, cap, rfl⟩ := okWide_slice Try.underlying25 hv
  obtain ⟨fuel, hf⟩ := h
  rcases Go.Deep.open_int_rows Try.underlying25 Try.underlying27 Try.underlying5 (by kernel_rfl) (by kernel_rfl) hf with ⟨hcs, _⟩ | ⟨x, l, c, A, L, C, Z, hcs, _, hl, hm, hd, hx⟩
  · simp [Value.cells] at hcs
    obtain ⟨rfl, rfl, rfl⟩ := hcs
    exact ⟨[], [], rfl, Sl.nil W, fun i h => by simp at h⟩
  · simp [Value.cells] at hcs
    obtain ⟨rfl, rfl, rfl⟩ := hcs
    refine ⟨(List.range len).map fun r => ((Z r).take (L r)).map fun z => UInt8.ofNat z.toNat, (List.range len).map fun r => .slice (A r) (L r) (C r), by simp, sl_of _ (by simp) hl hm (fun i hi => ?_) (fun hp => addr_plain (hx 0 (by omega)).1), fun i hi gi => ?_⟩
    · simp only [List.length_map, List.length_range] at hi
      rw [(hx i (by omega)).1]; simp
    · simp only [List.length_map, List.length_range] at hi
      simp only [List.getElem_map, List.getElem_range]
      obtain ⟨_, h1, h2, h3, h4, h5, h6⟩ := hx i (by omega)
      have hlen : (((Z i).take (L i)).map fun z => UInt8.ofNat z.toNat).length = L i := by simp; omega
      refine ⟨A i, C i, by rw [hlen], by rw [hlen]; exact h1, h2, fun hne => ?_⟩
      have hpos : 0 < L i := by rw [← hlen]; exact List.length_pos_iff.2 hne
      cases hA : A i with
      | none => have := h5 hA; omega
      | some ad =>
        obtain ⟨_, hcell⟩ := h6 ad hA
        obtain ⟨b, off, rfl, hb⟩ := addr_plain (hcell 0 (by omega))
        refine ⟨b, off, rfl, hb, fun j hj => ?_⟩
        rw [hlen] at hj
        have hzj : j < (Z i).length := by omega
        have hw := h4 (Z i)[j] (List.getElem_mem hzj)
        have hbd := bounds_u8 hw
        have hplain : (⟨b, off, none⟩ : Addr).add j = ⟨b, off + j, none⟩ := by unfold Addr.add; split <;> simp_all
        rw [← hplain, hcell j (by omega)]
        simp [List.getD, List.getElem?_eq_getElem hzj]
        omega

end Go.Proofs.Ytlcfbnbbdpgjiaa
