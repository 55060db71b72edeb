
/- extend: a copy of a slice of bytes with room behind it. -/
import Derived.Test.YtbfcdcdeohikpaaRows
import Derived.Test.YtbfcdcdeohikpaaMem
import Derived.Test.YtbfcdcdeohikpaaLeaf
namespace Go.Proofs.Ytbfcdcdeohikpaa
set_option linter.unusedVariables false
set_option linter.unusedSimpArgs false
open Go.RowKit

/-- The bytes, and n zeros behind them. -/
def ext (bs : List UInt8) (n : Nat) : List UInt8 := bs ++ List.replicate n 0
theorem ext_length (bs : List UInt8) (n : Nat) : (ext bs n).length = bs.length + n := by simp [ext]
theorem ext_zero (bs : List UInt8) : ext bs 0 = bs := by simp [ext]

theorem made_u8 (n : Nat) : madeCells (Value.int .u8 0).cells n = (u8s (List.replicate n 0)).toArray := by
  apply Array.ext
  · simp [madeCells, u8s]
  · intro i h1 h2
    simp [madeCells, u8s, Value.cells, Nat.mod_one]

theorem setRow_alloc_new (w : World) (X Y : Array Value) (e : TypeId) : (w.alloc (.cells X e)).setRow w.heap.size Y = w.alloc (.cells Y e) := by
  show ({ w with heap := (w.heap.push (.cells X e)).modify w.heap.size _ } : World) = { w with heap := w.heap.push (.cells Y e) }
  congr 1
  apply Array.ext
  · simp
  · intro k h1 h2
    simp only [Array.size_modify, Array.size_push] at h1 h2
    rw [Array.getElem_modify]
    by_cases hk : k = w.heap.size
    · subst hk; simp
    · rw [if_neg (by omega), Array.getElem_push_lt (by omega), Array.getElem_push_lt (by omega)]

theorem run_copy_new {P : Program} (w : World) (dT sT ty e : TypeId) (hu : P.underlying dT = some (.slice e)) (hs : (P.info? e).map (·.size) = some 1) {v : Value} {bs : List UInt8} (hv : Bs w v bs) (n : Nat) :
    (Builtin.copy_ #[dT, sT] ty #[.slice (some ⟨w.heap.size, 0, none⟩) (bs.length + n) (bs.length + n), v]).run P (w.alloc (.cells (u8s (List.replicate (bs.length + n) 0)).toArray e)) =
      .ok (goInt bs.length) (w.alloc (.cells (u8s (ext bs n)).toArray e)) := by
  obtain ⟨a, cap, rfl, h1, h2, h3⟩ := hv
  by_cases hb : bs = []
  · subst hb
    have := run_copy_none (P := P) (w.alloc (.cells (u8s (List.replicate (0 + n) 0)).toArray e)) dT sT ty e (some ⟨w.heap.size, 0, none⟩) a (0 + n) (0 + n) 0 cap hu hs (by simp)
    simpa [ext] using this
  · obtain ⟨b, off, rfl, hlt, hc⟩ := h3 hb
    have hg : (w.alloc (.cells (u8s (List.replicate (bs.length + n) 0)).toArray e)).heap[w.heap.size]? = some (.cells (u8s (List.replicate (bs.length + n) 0)).toArray e (0, 0)) := heap_alloc_new _ _
    have := run_copy_row P (w.alloc (.cells (u8s (List.replicate (bs.length + n) 0)).toArray e)) dT sT ty e w.heap.size 0 (bs.length + n) (bs.length + n) ⟨b, off, none⟩ bs.length cap (u8s (List.replicate (bs.length + n) 0)).toArray e (u8s bs) hu hs hg
      (by simp [u8s_length]) (fun j v hj => by
        have hjl : j < bs.length := by
          rcases Nat.lt_or_ge j bs.length with h | h
          · exact h
          · rw [List.getElem?_eq_none (by simpa [u8s] using h)] at hj; simp at hj
        rw [u8s_get bs j hjl] at hj
        have hplain : (⟨b, off, none⟩ : Addr).add j = ⟨b, off + j, none⟩ := by unfold Addr.add; split <;> simp_all
        rw [hplain, World.cell?_alloc_past _ _ _ hlt, hc j hjl]; exact hj)
      (by simp [u8s_length]) (fun v hv => by simp [u8s] at hv; obtain ⟨x, _, rfl⟩ := hv; rfl)
    rw [u8s_length] at this
    rw [this]
    congr 1
    rw [setRow_alloc_new]
    congr 2
    simp [ext, u8s_append, u8s, List.drop_replicate]

theorem Try.infoU8 : (Try.prog.info? 5).map (fun i => (i.zero, i.size, i.bytes)) = some (some (.int .u8 0), 1, 1) := by kernel_rfl

theorem sizeU8 : (Try.prog.info? 5).map (·.size) = some 1 := by
  obtain ⟨i, hi, hz0, hz1, hz2⟩ := info_parts Try.infoU8
  simp [hi, hz1]

end Go.Proofs.Ytbfcdcdeohikpaa
