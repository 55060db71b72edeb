
/- readRow: a row read. -/
import Derived.Test.YtjmjpdamhondkaaTb4
namespace Go.Proofs.Ytjmjpdamhondkaa
set_option linter.unusedVariables false
set_option linter.unusedSimpArgs false
open Go.RowKit Go.Maps

theorem rowTo_none {bs : List UInt8} {t m at0 : Nat} : ∀ {c : Nat} (k : Nat), rowTo bs t m at0 c = none → rowTo bs t m at0 (c + k) = none
  | c, 0, h => h
  | c, k + 1, h => by
    have := rowTo_none k h
    rw [← Nat.add_assoc]
    simp only [rowTo, this]
theorem rowTo_short {bs : List UInt8} {t m at0 c n a : Nat} {l : List Int} (h : rowTo bs t m at0 c = some (l, a)) (hc : c < n) (hs : bs.length < a + widR t c m) : rowTo bs t m at0 n = none := by
  have h1 : rowTo bs t m at0 (c + 1) = none := by simp only [rowTo, h]; rw [if_pos hs]
  obtain ⟨k, rfl⟩ : ∃ k, n = c + 1 + k := ⟨n - (c + 1), by omega⟩
  exact rowTo_none k h1
theorem rowTo_next {bs : List UInt8} {t m at0 c a : Nat} {l : List Int} (h : rowTo bs t m at0 c = some (l, a)) (hs : ¬ bs.length < a + widR t c m) : rowTo bs t m at0 (c + 1) = some (l ++ [(numAt bs a (widR t c m) : Int)], a + widR t c m) := by
  simp only [rowTo, h]; rw [if_neg hs]
theorem rowTo_len {bs : List UInt8} {t m at0 c a : Nat} {l : List Int} (h : rowTo bs t m at0 c = some (l, a)) : l.length = c := (row_was h).1

theorem Try.infoInt : (Try.prog.info? 3).map (fun i => (i.zero, i.size, i.bytes)) = some (some (.int .i64 0), 1, 8) := by kernel_rfl
theorem run_make_row (w : World) (n : Nat) (hn : n ≤ 6) :
    (Instr.makeSlice 62 (.int .i64 0) (.int .i64 (n : Int))).run Try.prog w = .ok (.slice (some ⟨w.heap.size, 0, none⟩) 0 n) (w.alloc (.cells (madeCells (Value.int .i64 0).cells n) 3)) := by
  obtain ⟨i, hi, hz0, hz1, hz2⟩ := info_parts Try.infoInt
  have := run_make (P := Try.prog) w 62 3 i (.int .i64 0) Try.underlying62 hi hz0 .i64 .i64 0 (n : Int) (by omega) (by omega) (by rw [hz2]; omega) (by omega)
  rw [this, hz1]
  simp
theorem OwnV.room (w : World) (e : TypeId) (z : Value) (n g : Nat) (hg : g = w.heap.size) (hn : n ≤ 6) : OwnV (w.alloc (.cells (madeCells z.cells n) e)) g e (.slice (some ⟨g, 0, none⟩) 0 n) [] := by
  subst hg
  refine ⟨by omega, .inr ⟨w.heap.size, n, _, rfl, Nat.le_refl _, heap_alloc_new w _, by simp, by unfold maxLen; omega, ?_, by simp⟩⟩
  rw [size_madeCells]; omega

/-- A number of so many bytes is there, or it isn't. -/
theorem num_w {w : World} {rb : Nat} {bs : List UInt8} {at_ : Nat} (h : RdAt w rb bs at_) {n : Nat} (hn : n = 1 ∨ n = 2 ∨ n = 4) (hs : ¬ bs.length < at_ + n) :
    Calls Try.prog 24 #[.pointer (some ⟨rb, 0, none⟩), .int .i64 (n : Int)] w fun e w' => e = .returned (.tuple #[.int .u64 (numAt bs at_ n : Int), .int .i64 0]) ∧ RdAt w' rb bs (at_ + n) ∧ Only rb w w' :=
  num_yes h n (by rcases hn with rfl | rfl | rfl <;> rfl) (by omega) (by omega) (by omega)
theorem num_s {w : World} {rb : Nat} {bs : List UInt8} {at_ : Nat} (h : RdAt w rb bs at_) {n : Nat} (hn : n = 1 ∨ n = 2 ∨ n = 4) (hs : bs.length < at_ + n) :
    Calls Try.prog 24 #[.pointer (some ⟨rb, 0, none⟩), .int .i64 (n : Int)] w fun e w' => e = .returned (.tuple #[.int .u64 0, .int .i64 1]) ∧ Only rb w w' :=
  (num_short h (n : Int) (by rcases hn with rfl | rfl | rfl <;> rfl) (by have := h.le; omega)).mono fun e w' ⟨he, m, hm⟩ => ⟨he, by rw [hm]; exact (Only.refl _ _).drewN m⟩

/-- What readRow answers. -/
def RowPt (w : World) (rb : Nat) (bs : List UInt8) (t m at_ : Nat) (e : Ending) (w' : World) : Prop :=
  (rowTo bs t m at_ (colsR t) = none ∧ e = .returned (.tuple #[.slice none 0 0, .int .i64 1])) ∨
  ∃ l a x c, rowTo bs t m at_ (colsR t) = some (l, a) ∧ e = .returned (.tuple #[.slice x (colsR t) c, .int .i64 0]) ∧ OwnV w' w.heap.size 3 (.slice x (colsR t) c) (i64s l) ∧ RdAt w' rb bs a

set_option maxHeartbeats 1000000 in
theorem readRow_any {w : World} {rb : Nat} {bs : List UInt8} {at_ : Nat} (t m : Nat) (hm : m ≤ 3) (h : RdAt w rb bs at_) :
    Calls Try.prog 41 #[.pointer (some ⟨rb, 0, none⟩), .int .i64 (t : Int), .int .u64 (m : Int)] w fun e w' => RowPt w rb bs t m at_ e w' ∧ Only rb w w' := by
  have H : Hid (RdAt w rb bs at_) := h
  have hrb := h.lt
  have h6 : colsR t ≤ 6 := by unfold colsR; split <;> omega
  have hmk := run_make_row w (colsR t) h6
  have HCL : Hid (∀ W, Calls Try.prog 21 #[.int .i64 (t : Int)] W fun e w' => e = .returned (.int .i64 (colsR t : Int)) ∧ w' = W) := fun W => by
    have := columns_any (t : Int) W
    rw [colsI_nat] at this
    exact this
  have HO1 : Hid (OwnV (w.alloc (.cells (madeCells (Value.int .i64 0).cells (colsR t)) 3)) w.heap.size 3 (.slice (some ⟨w.heap.size, 0, none⟩) 0 (colsR t)) []) := OwnV.room w _ _ _ _ rfl h6
  have HB1 : Hid (Below w.heap.size w (w.alloc (.cells (madeCells (Value.int .i64 0).cells (colsR t)) 3))) := (Below.refl _ _).alloc (Nat.le_refl _) _
  have hs1 : (w.alloc (.cells (madeCells (Value.int .i64 0).cells (colsR t)) 3)).heap.size = w.heap.size + 1 := by simp
  clear h
  generalize hcc : colsR t = cc at *
  have HCC : Hid (colsR t = cc) := hcc
  clear hcc
  go_enter Try.func41, Try.ntmps41
  go_wp2_with fail
  refine (HCL.out _).mono ?_
  rintro e wz ⟨rfl, hz⟩
  subst wz
  go_wp2_with fail
  refine (signs_any _ _).mono ?_
  rintro e wz ⟨rfl, hz⟩
  subst wz
  go_wp2_with fail
  go_loopw [8] (fun u wr => ∃ (c a : Nat) (l : List Int), c ≤ cc ∧ rowTo bs t m at_ c = some (l, a) ∧ wr.heap[w.heap.size + 1]? = some (.stringIter (sgB (t : Int)) c) ∧ OwnV wr w.heap.size 3 u (i64s l) ∧ RdAt wr rb bs a ∧ Only rb w wr) (fun _ wr => cc - wr.iterPos (w.heap.size + 1))
  case atStart =>
    have hbi : Below (w.heap.size + 1) (w.alloc (.cells (madeCells (Value.int .i64 0).cells cc) 3)) ((w.alloc (.cells (madeCells (Value.int .i64 0).cells cc) 3)).iter (sgB (t : Int)) 0) := (Below.refl _ _).alloc (by omega) _
    have hb2 : Below w.heap.size w ((w.alloc (.cells (madeCells (Value.int .i64 0).cells cc) 3)).iter (sgB (t : Int)) 0) := HB1.out.trans (hbi.mono (by omega))
    refine ⟨0, at_, [], Nat.zero_le _, rfl, ?_, HO1.out.later (by rw [hs1]; exact hbi), H.out.below hb2 hrb, Only.of_below hb2⟩
    have := World.iter_heap (w.alloc (.cells (madeCells (Value.int .i64 0).cells cc) 3)) (sgB (t : Int)) 0
    rwa [hs1] at this
  case round =>
    obtain ⟨c, a, l, hcl, hrt, hit, hou, hra, hon⟩ := hrel
    have HRT : Hid (rowTo bs t m at_ c = some (l, a)) := hrt
    have HMP : Hid (wr.iterPos (w.heap.size + 1) = c) := by show _ = _; simp [World.iterPos, hit]
    have HLL : Hid (l.length = c) := rowTo_len hrt
    by_cases hlt : c < cc
    · obtain ⟨s, hs, hnx⟩ := next_sign (P := Try.prog) wr (w.heap.size + 1) t c hit (by have := HCC.out; omega)
      have hbn : Below w.heap.size wr (wr.iterAt (w.heap.size + 1) (sgB (t : Int)) (c + 1)) := Lib.below_iterAt (Below.refl _ _) (by omega) _ _
      have HO2 : Hid (OwnV (wr.iterAt (w.heap.size + 1) (sgB (t : Int)) (c + 1)) w.heap.size 3 u8 (i64s l)) := hou.of_block fun j hj _ => Lib.iterAt_other wr _ j _ _ fun e => by
        obtain ⟨C, hC⟩ := hou.typed j hj
        rw [e, hit] at hC; cases hC
      have HI2 : Hid ((wr.iterAt (w.heap.size + 1) (sgB (t : Int)) (c + 1)).heap[w.heap.size + 1]? = some (.stringIter (sgB (t : Int)) (c + 1))) := Lib.iterAt_heap wr _ _ c _ hit
      have HR2 : Hid (RdAt (wr.iterAt (w.heap.size + 1) (sgB (t : Int)) (c + 1)) rb bs a) := hra.below hbn hrb
      have HN2 : Hid (Only rb w (wr.iterAt (w.heap.size + 1) (sgB (t : Int)) (c + 1))) := hon.low hbn
      clear hrt hit hou hra hon hbn
      generalize hwn : wr.iterAt (w.heap.size + 1) (sgB (t : Int)) (c + 1) = wn at *
      clear hwn
      have hw := widR_cases t c m
      have hsm := hs m hm
      have HW : Hid (∀ W, Calls Try.prog 45 #[.int .i32 s, .int .u64 (m : Int)] W fun e w' => e = .returned (.int .i64 (widR t c m : Int)) ∧ w' = W) := fun W => by
        have := width_any s m hm W
        rw [hsm] at this
        exact this
      clear hs hsm
      by_cases hsh : bs.length < a + widR t c m
      · have HE : Hid (rowTo bs t m at_ (colsR t) = none) := rowTo_short HRT.out (by have := HCC.out; omega) hsh
        have HNUM : Hid _ := num_s HR2.out (show widR t c m = 1 ∨ widR t c m = 2 ∨ widR t c m = 4 by omega) hsh
        clear hsh hw
        generalize widR t c m = wd at *
        go_wp2_with (go_at_call 45; refine (HW.out _).mono ?_; rintro e wz ⟨rfl, hz⟩; subst wz)
        refine Calls.mono HNUM.out ?_
        rintro e w3 ⟨rfl, ho3⟩
        have HN3 : Hid (Only rb w w3) := HN2.out.trans ho3
        clear ho3 HNUM
        go_wp2_with fail
        go_ret2
        exact ⟨.inl ⟨HE.out, rfl⟩, HN3.out⟩
      · have HE : Hid (rowTo bs t m at_ (c + 1) = some (l ++ [(numAt bs a (widR t c m) : Int)], a + widR t c m)) := rowTo_next HRT.out hsh
        have HNUM : Hid _ := num_w HR2.out (show widR t c m = 1 ∨ widR t c m = 2 ∨ widR t c m = 4 by omega) hsh
        have hnl : numAt bs a (widR t c m) < 4294967296 := by
          have := num_lt bs a (widR t c m)
          rcases hw with e | e <;> rw [e] at this ⊢ <;> omega
        clear hsh hw
        generalize widR t c m = wd at *
        generalize numAt bs a wd = x at *
        go_wp2_with (go_at_call 45; refine (HW.out _).mono ?_; rintro e wz ⟨rfl, hz⟩; subst wz)
        refine Calls.mono HNUM.out ?_
        rintro e w3 ⟨rfl, hr3, ho3⟩
        have HO3 : Hid (OwnV w3 w.heap.size 3 u8 (i64s l)) := HO2.out.only ho3 hrb
        have HI3 : Hid (w3.heap[w.heap.size + 1]? = some (.stringIter (sgB (t : Int)) (c + 1))) := (ho3.block _ (Array.getElem?_eq_some_iff.1 HI2.out).1 (by omega)).trans HI2.out
        have HR3 : Hid (RdAt w3 rb bs (a + wd)) := hr3
        have HN3 : Hid (Only rb w w3) := HN2.out.trans ho3
        clear ho3 hr3 HNUM HO2 HI2 HR2 HN2
        have hll := HLL.out
        have hb4 : Below w3.heap.size w3 (w3.alloc (Obj.cells #[.int .i64 (x : Int)] 3)) := (Below.refl _ _).alloc (Nat.le_refl _) _
        have HO4 : Hid (OwnV (w3.alloc (Obj.cells #[.int .i64 (x : Int)] 3)) w.heap.size 3 u8 (i64s l)) := HO3.out.later hb4
        have hsz3 := HN3.out.size
        have hil := i64s_length l
        go_wp2_with (at_builtin; go_must (refine wpList_append_at rfl _ _ _ _ rfl w.heap.size 3 (.int .i64 0) 8 Try.underlying62 Try.infoInt rfl rfl rfl HO4.out (one_src0 Try.underlying62 _ _ _ _ (by simp) rfl) (by rw [hil, hll]; unfold maxLen; omega) (by rw [hil, hll]; omega) (by simp; omega) ?_))
        intro v5 w5 ho5 hg5 hp5 _
        have hb5 : Below w.heap.size w3 w5 := (hb4.mono hsz3).grown hg5 (by simp; omega) (fun k hk => (HO4.out.block k hk).1)
        have HO5 : Hid (OwnV w5 w.heap.size 3 v5 (i64s (l ++ [(x : Int)]))) := by
          have := ho5
          simp only [i64s, List.map_append, List.map_cons, List.map_nil] at this ⊢
          exact this
        have HI5 : Hid (w5.heap[w.heap.size + 1]? = some (.stringIter (sgB (t : Int)) (c + 1))) := by
          have h1 := (hb4.block _ (Array.getElem?_eq_some_iff.1 HI3.out).1).trans HI3.out
          show _ = _
          rw [← h1]
          refine hg5.block _ (Array.getElem?_eq_some_iff.1 h1).1 fun e => ?_
          obtain ⟨C, hC⟩ := HO4.out.typed _ e.symm
          rw [h1] at hC; cases hC
        have HR5 : Hid (RdAt w5 rb bs (a + wd)) := HR3.out.below hb5 hrb
        have HN5 : Hid (Only rb w w5) := HN3.out.low hb5
        clear ho5 hg5 hp5 hb5 hb4 HO4 HO3
        go_wp2_with fail
        go_roundw
        case rel => exact ⟨c + 1, _, _, by omega, HE.out, HI5.out, HO5.out, HR5.out, HN5.out⟩
        case measure =>
          have h1 : w5.iterPos (w.heap.size + 1) = c + 1 := by simp [World.iterPos, HI5.out]
          rw [HMP.out, h1]; omega
    · have hnx := fun ty => next_done (P := Try.prog) wr (w.heap.size + 1) t c hit (by have := HCC.out; omega) ty
      have hce : c = colsR t := by have := HCC.out; omega
      obtain ⟨x, y, e1, -⟩ := hou.sl
      rw [i64s_length, HLL.out, hce] at e1
      have HF : Hid (RowPt w rb bs t m at_ (.returned (.tuple #[u8, .int .i64 0])) wr) := .inr ⟨l, a, x, y, by rw [← hce]; exact hrt, by rw [e1], by rw [← e1]; exact hou, hra⟩
      clear e1 hce hrt hou hra
      go_wp2_with fail
      go_ret2
      exact ⟨HF.out, hon⟩

end Go.Proofs.Ytjmjpdamhondkaa
