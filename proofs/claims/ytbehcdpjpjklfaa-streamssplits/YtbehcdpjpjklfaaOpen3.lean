
/- Streams that came in. -/
import Derived.Test.YtbehcdpjpjklfaaRows
import Derived.Test.YtbehcdpjpjklfaaOpen
import Derived.Test.YtbehcdpjpjklfaaParts
import Derived.Lib.SmallJoins
namespace Go.Proofs.Ytbehcdpjpjklfaa
set_option linter.unusedVariables false
set_option linter.unusedSimpArgs false
open Go.ChangeShapes Go.WideShapes Go.ChangeAt Go.RowKit

/-- A slice of bytes as a field. -/
theorem openBs1 {H : Type} {enc : TypeId × Value → H} {W : World} {v : Value} {n : Nat} {y : DataW H × List MemPlace}
    (h : DataW.trod enc Try.prog W 0 (fun _ => true) true n 22 [v] = some y) : ∃ bs, Bs W v bs := by
  rcases open_ints Try.underlying22 Try.underlying5 (by kernel_rfl) h with ⟨hcs, _⟩ | ⟨x, len, cap, zs, hcs, _, hl, hm, hz, hd, hcell, hwz⟩
  · simp at hcs
    subst hcs
    exact ⟨[], Bs.nil W⟩
  · simp at hcs
    subst hcs
    simp only [if_true] at hz
    have hlen : ((zs.take len).map fun z => UInt8.ofNat z.toNat).length = len := by simp; omega
    refine ⟨(zs.take len).map fun z => UInt8.ofNat z.toNat, some x, cap, by rw [hlen], by rw [hlen]; exact hl, hm, fun hne => ?_⟩
    have hpos : 0 < len := by
      rcases Nat.eq_zero_or_pos len with h | h
      · subst h; simp at hne
      · exact h
    obtain ⟨b, off, rfl, hc⟩ := ints_at hcell (by omega)
    have c0 := hc 0 (by omega)
    refine ⟨b, off, rfl, ?_, fun i hi => ?_⟩
    · rcases Nat.lt_or_ge b W.heap.size with h | h
      · exact h
      · simp [World.cell?, Array.getElem?_eq_none h] at c0
    · rw [hlen] at hi
      have hzi : i < zs.length := by omega
      have hw := hwz zs[i] (List.getElem_mem hzi)
      have hbd := bounds_u8 hw
      rw [hc i hzi]
      simp [List.getD, List.getElem?_eq_getElem hzi]
      omega

theorem open_api_Streams {H : Type} {enc : TypeId × Value → H} {W : World} {base : Nat} {v : Value} {d : DataW H} {p : List MemPlace}
    (hv : Value.okWide Try.prog W .any base 25 v) (h : DataW.Trod enc Try.prog W 0 (fun _ => true) true 25 v d p) : ∃ s, Sv W v s := by
  obtain ⟨v0, v1, v2, v3, y0, y1, y2, y3, n, rfl, _, _, h0, h1, h2, h3⟩ := Go.Joins.open_agg4 Try.underlying25 (by kernel_rfl) (by kernel_rfl) hv h
  obtain ⟨r, hr⟩ := openBs1 h0
  obtain ⟨m, hm⟩ := openBs1 h1
  obtain ⟨b, hb⟩ := openBs1 h2
  obtain ⟨c, hc⟩ := openBs1 h3
  exact ⟨⟨r, m, b, c⟩, _, _, _, _, rfl, hr, hm, hb, hc⟩

end Go.Proofs.Ytbehcdpjpjklfaa
