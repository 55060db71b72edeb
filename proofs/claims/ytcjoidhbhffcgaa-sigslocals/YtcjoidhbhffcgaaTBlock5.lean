
/- A block of types; types read one behind the other. -/
import Derived.Test.YtcjoidhbhffcgaaHeads5
import Derived.Test.YtcjoidhbhffcgaaTList5
namespace Go.Proofs.Ytcjoidhbhffcgaa
set_option linter.unusedVariables false
set_option linter.unusedSimpArgs false
open Go.RowKit

/-- The cells of types. -/
def tcL : List Ty → List Value
  | [] => []
  | t :: r => .int .i64 t.1 :: .int .i64 t.2.1 :: .int .i64 t.2.2.1 :: .bool t.2.2.2 :: tcL r
theorem tcL_length (L : List Ty) : (tcL L).length = 4 * L.length := by
  induction L with
  | nil => rfl
  | cons t r ih => simp [tcL, ih]; omega
theorem tcL_append (L M : List Ty) : tcL (L ++ M) = tcL L ++ tcL M := by
  induction L with
  | nil => rfl
  | cons t r ih => simp [tcL, ih]
theorem tcL_get : ∀ (L : List Ty) (i : Nat) (h : i < L.length), (tcL L)[i * 4]? = some (.int .i64 L[i].1) ∧ (tcL L)[i * 4 + 1]? = some (.int .i64 L[i].2.1) ∧ (tcL L)[i * 4 + 2]? = some (.int .i64 L[i].2.2.1) ∧ (tcL L)[i * 4 + 3]? = some (.bool L[i].2.2.2)
  | t :: r, 0, _ => ⟨rfl, rfl, rfl, rfl⟩
  | t :: r, i + 1, h => by
    have ih := tcL_get r i (by simpa using h)
    have e : (i + 1) * 4 = i * 4 + 1 + 1 + 1 + 1 := by omega
    simp only [tcL, e, List.getElem?_cons_succ, List.getElem_cons_succ]
    exact ih
theorem tcL_set : ∀ (L : List Ty) (i : Nat) (t : Ty), i < L.length → ((((tcL L).set (i * 4) (.int .i64 t.1)).set (i * 4 + 1) (.int .i64 t.2.1)).set (i * 4 + 2) (.int .i64 t.2.2.1)).set (i * 4 + 3) (.bool t.2.2.2) = tcL (L.set i t)
  | x :: r, 0, t, _ => rfl
  | x :: r, i + 1, t, h => by
    have ih := tcL_set r i t (by simpa using h)
    have e0 : (i + 1) * 4 = i * 4 + 1 + 1 + 1 + 1 := by omega
    have e1 : (i + 1) * 4 + 1 = i * 4 + 1 + 1 + 1 + 1 + 1 := by omega
    have e2 : (i + 1) * 4 + 2 = i * 4 + 2 + 1 + 1 + 1 + 1 := by omega
    have e3 : (i + 1) * 4 + 3 = i * 4 + 3 + 1 + 1 + 1 + 1 := by omega
    have e1' : i * 4 + 1 + 1 + 1 + 1 + 1 = (i * 4 + 1) + 1 + 1 + 1 + 1 := by omega
    rw [e1, e2, e3, e0]
    simp only [tcL, List.set_cons_succ, ih]

/-- In block g lie these types. -/
def TbAt (w : World) (g : Nat) (L : List Ty) : Prop := At w g (tcL L).toArray 23

theorem TbAt.ts {w : World} {g : Nat} {L : List Ty} (h : TbAt w g L) (hl : L.length ≤ maxLen) : Ts w (.slice (some ⟨g, 0, none⟩) L.length L.length) L := by
  refine ⟨_, _, rfl, Nat.le_refl _, hl, fun _ => ⟨g, 0, rfl, h.lt, fun i hi => ?_⟩⟩
  have := tcL_get L i hi
  have hc := h.cell
  rw [Nat.zero_add, hc, hc, hc, hc]
  simpa using this
theorem TbAt.set {w : World} {g : Nat} {L : List Ty} (h : TbAt w g L) (i : Nat) (hi : i < L.length) (t : Ty) :
    TbAt ((((w.setCell ⟨g, i * 4, none⟩ (.int .i64 t.1)).setCell ⟨g, i * 4 + 1, none⟩ (.int .i64 t.2.1)).setCell ⟨g, i * 4 + 2, none⟩ (.int .i64 t.2.2.1)).setCell ⟨g, i * 4 + 3, none⟩ (.bool t.2.2.2)) g (L.set i t) := by
  have := (((At.set h (i * 4) (.int .i64 t.1)).set (i * 4 + 1) (.int .i64 t.2.1)).set (i * 4 + 2) (.int .i64 t.2.2.1)).set (i * 4 + 3) (.bool t.2.2.2)
  unfold TbAt
  rw [← tcL_set L i t hi]
  simpa using this

theorem Try.infoTy : (Try.prog.info? 23).map (fun i => (i.zero, i.size, i.bytes)) = some (some (.agg #[.int .i64 0, .int .i64 0, .int .i64 0, .bool false]), 4, 32) := by kernel_rfl
theorem made_ty (n : Nat) : madeCells (Value.agg #[.int .i64 0, .int .i64 0, .int .i64 0, .bool false]).cells (n * 4) = (tcL (List.replicate n (0, 0, 0, false))).toArray := by
  have hl : (tcL (List.replicate n ((0, 0, 0, false) : Ty))).length = n * 4 := by rw [tcL_length]; simp; omega
  apply Array.ext
  · simp [madeCells, hl]
  · intro i h1 h2
    have hi : i < n * 4 := by simpa [madeCells] using h1
    have hq : i / 4 < n := by omega
    obtain ⟨g0, g1, g2, g3⟩ := tcL_get (List.replicate n ((0, 0, 0, false) : Ty)) (i / 4) (by simpa using hq)
    have hcs : i % 4 = 0 ∨ i % 4 = 1 ∨ i % 4 = 2 ∨ i % 4 = 3 := by omega
    have hz : (Value.agg #[.int .i64 0, .int .i64 0, .int .i64 0, .bool false]).cells = #[.int .i64 0, .int .i64 0, .int .i64 0, .bool false] := rfl
    have key : (tcL (List.replicate n ((0, 0, 0, false) : Ty)))[i]? = some (#[Value.int .i64 0, .int .i64 0, .int .i64 0, .bool false][i % 4]!) := by
      rcases hcs with h | h | h | h
      · rw [show i / 4 * 4 = i by omega] at g0; rw [h, g0]; simp
      · rw [show i / 4 * 4 + 1 = i by omega] at g1; rw [h, g1]; simp
      · rw [show i / 4 * 4 + 2 = i by omega] at g2; rw [h, g2]; simp
      · rw [show i / 4 * 4 + 3 = i by omega] at g3; rw [h, g3]; simp
    rw [List.getElem?_eq_getElem (by omega)] at key
    simp only [Option.some.injEq] at key
    simp only [List.getElem_toArray, key]
    simp [madeCells, hz]
theorem run_make_tys (w : World) (n : Nat) (hn : n ≤ 100) :
    (Instr.makeSlice 37 (.int .i64 (n : Int)) (.int .i64 (n : Int))).run Try.prog w = .ok (.slice (some ⟨w.heap.size, 0, none⟩) n n) (w.alloc (.cells (tcL (List.replicate n (0, 0, 0, false))).toArray 23)) := by
  obtain ⟨i, hi, hz0, hz1, hz2⟩ := info_parts Try.infoTy
  have := run_make (P := Try.prog) w 37 23 i _ Try.underlying37 hi hz0 .i64 .i64 (n : Int) (n : Int) (by omega) (by omega) (by rw [hz2]; omega) (by omega)
  rw [this, hz1, Int.toNat_natCast, made_ty]

/-- So many types at a place, each a parameter's or a local's: the types, the place behind them, the error. -/
def getTs (bs : List UInt8) : Nat → Nat → List Ty × Nat × Nat
  | 0, a => ([], a, 0)
  | n + 1, a => if (allowR 2 (getT bs a)).2.2 ≠ 0 then ([], 0, (allowR 2 (getT bs a)).2.2) else
      if (getTs bs n (allowR 2 (getT bs a)).2.1).2.2 ≠ 0 then ([], 0, (getTs bs n (allowR 2 (getT bs a)).2.1).2.2) else
      ((allowR 2 (getT bs a)).1 :: (getTs bs n (allowR 2 (getT bs a)).2.1).1, (getTs bs n (allowR 2 (getT bs a)).2.1).2.1, 0)
/-- With what was read ahead. -/
def consR (ts : List Ty) (x : List Ty × Nat × Nat) : List Ty × Nat × Nat := if x.2.2 ≠ 0 then ([], 0, x.2.2) else (ts ++ x.1, x.2.1, 0)
theorem getTs_bad (bs : List UInt8) (n a : Nat) (h : (getTs bs n a).2.2 ≠ 0) : getTs bs n a = ([], 0, (getTs bs n a).2.2) := by
  cases n with
  | zero => simp [getTs] at h
  | succ n =>
    unfold getTs at h ⊢
    split
    · rfl
    · rename_i h1
      rw [if_neg h1] at h
      split
      · rfl
      · rename_i h2
        rw [if_neg h2] at h
        simp at h
theorem cons_nil (bs : List UInt8) (n a : Nat) : getTs bs n a = consR [] (getTs bs n a) := by
  unfold consR
  split
  · rename_i h; exact getTs_bad bs n a h
  · rename_i h
    have h0 : (getTs bs n a).2.2 = 0 := by simpa using h
    simp only [List.nil_append]
    rw [← h0]
theorem cons_bad (bs : List UInt8) (ts : List Ty) (n a : Nat) (h : (allowR 2 (getT bs a)).2.2 ≠ 0) : consR ts (getTs bs (n + 1) a) = ([], 0, (allowR 2 (getT bs a)).2.2) := by
  unfold getTs
  rw [if_pos h]
  unfold consR
  rw [if_pos h]
theorem cons_step (bs : List UInt8) (ts : List Ty) (n a : Nat) (h : (allowR 2 (getT bs a)).2.2 = 0) : consR ts (getTs bs (n + 1) a) = consR (ts ++ [(allowR 2 (getT bs a)).1]) (getTs bs n (allowR 2 (getT bs a)).2.1) := by
  conv => lhs; unfold getTs
  rw [if_neg (by simpa using h)]
  unfold consR
  by_cases h2 : (getTs bs n (allowR 2 (getT bs a)).2.1).2.2 ≠ 0
  · rw [if_pos h2, if_pos h2]; rw [if_pos h2]
  · rw [if_neg h2, if_neg h2]; simp
theorem cons_end (bs : List UInt8) (ts : List Ty) (a : Nat) : consR ts (getTs bs 0 a) = (ts, a, 0) := by simp [consR, getTs]

/-- .. and no more. -/
def lastTs (bs : List UInt8) (x : List Ty × Nat × Nat) : List Ty × Nat := if x.2.2 ≠ 0 then ([], x.2.2) else if x.2.1 < bs.length then ([], 2) else (x.1, 0)

end Go.Proofs.Ytcjoidhbhffcgaa
