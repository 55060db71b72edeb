
/- begin, entry and Clone. -/
import Derived.Test.YtbehcdpjpjklfaaRows
import Derived.Test.YtbehcdpjpjklfaaSmall3
namespace Go.Proofs.Ytbehcdpjpjklfaa
set_option linter.unusedVariables false
set_option linter.unusedSimpArgs false
open Go.RowKit Go.Maps
attribute [local go_sem ↓] Go.wp_at_zero Go.wp_at_succ

/-- What a head begins with. -/
def beginR (bs : List UInt8) : Nat × Nat := if seg bs 0 4 ≠ magic then (0, 2) else if numAt bs 4 2 ≠ 1 then (4, 2) else if numAt bs 6 2 ≠ 4 then (6, 2) else (0, 0)

theorem str_ne (l : List UInt8) (t : ByteArray) (m : List UInt8) (hm : t.data.toList = m) : ((⟨l.toArray⟩ : ByteArray).toList == t.toList) = decide (l = m) := by
  rw [str_eq, hm]

set_option maxRecDepth 100000 in
set_option maxHeartbeats 1000000 in
theorem begin_any {w : World} {rb : Nat} {bs : List UInt8} (h : RdAt w rb bs 0) (hl : 56 ≤ bs.length) :
    Calls Try.prog 19 #[.pointer (some ⟨rb, 0, none⟩)] w fun e w' => e = .returned (.tuple #[.int .i64 ((beginR bs).1 : Int), .int .i64 ((beginR bs).2 : Int)]) ∧ RdAt w' rb bs 8 ∧ Only rb w w' := by
  have hrb := h.lt
  have HB : Hid (∀ p : Nat × Nat, beginR bs = p → ((beginR bs).1 = p.1 ∧ (beginR bs).2 = p.2)) := fun p hp => by rw [hp]; exact ⟨rfl, rfl⟩
  have HD : Hid (beginR bs = if seg bs 0 4 ≠ magic then (0, 2) else if numAt bs 4 2 ≠ 1 then (4, 2) else if numAt bs 6 2 ≠ 4 then (6, 2) else (0, 0)) := rfl
  go_enter Try.func19, Try.ntmps19
  go_wp2_with fail
  refine (take_new h 4 (by omega)).mono ?_
  rintro e w1 ⟨v1, rfl, hb1, hr1, ho1, hp1⟩
  have HB1 : Hid (Bs w1 v1 (seg bs 0 4)) := hb1
  have HO1 : Hid (Only rb w w1) := ho1
  have HP1 : Hid (v1.ownBlock ≠ some rb) := fun e => by have := hp1 rb e; omega
  clear hb1 ho1 hp1
  go_wp2_with fail
  refine (num_yes hr1 2 rfl (by omega) (by omega) (by omega)).mono ?_
  rintro e w2 ⟨rfl, hr2, ho2⟩
  have HB2 : Hid (Bs w2 v1 (seg bs 0 4)) := HB1.out.only ho2 (fun _ => HP1.out)
  have HO2 : Hid (Only rb w w2) := HO1.out.trans ho2
  clear ho2 hr1 HB1 HO1
  go_wp2_with fail
  refine (num_yes hr2 2 rfl (by omega) (by omega) (by omega)).mono ?_
  rintro e w3 ⟨rfl, hr3, ho3⟩
  have hcv := convert_bs (HB2.out.only ho3 (fun _ => HP1.out))
  have HO3 : Hid (Only rb w w3) := HO2.out.trans ho3
  have HR3 : Hid (RdAt w3 rb bs 8) := hr3
  obtain ⟨a1, c1, e1, -⟩ := HB2.out
  subst e1
  clear ho3 hr2 hr3 HB2 HO2
  have e2 : leN (seg bs (0 + 4) 2) = numAt bs 4 2 := rfl
  have e3 : leN (seg bs (0 + 4 + 2) 2) = numAt bs 6 2 := rfl
  rw [e2, e3]
  clear e2 e3
  have hsq : (seg bs 0 4 == [67, 71, 82, 68]) = decide (seg bs 0 4 = magic) := by
    by_cases g : seg bs 0 4 = magic
    · rw [decide_eq_true g, g]; rfl
    · rw [decide_eq_false g]; rw [beq_eq_false_iff_ne]; exact g
  generalize numAt bs 4 2 = m1 at *
  generalize numAt bs 6 2 = m2 at *
  by_cases g1 : seg bs 0 4 = magic
  · by_cases g2 : m1 = 1
    · by_cases g3 : m2 = 4
      · obtain ⟨x, y⟩ := HB.out (0, 0) (by rw [HD.out]; simp [g1, g2, g3])
        rw [decide_eq_true g1] at hsq
        subst g2 g3
        clear g1 HB HD
        go_wp2_with fail
        go_ret2
        exact ⟨ret_int2 (by rw [x]; rfl) (by rw [y]; rfl), HR3.out, HO3.out⟩
      · obtain ⟨x, y⟩ := HB.out (6, 2) (by rw [HD.out]; simp [g1, g2, g3])
        rw [decide_eq_true g1] at hsq
        have g3' : ((m2 : Int) != 4) = true := by rw [bne_iff_ne]; omega
        subst g2
        clear g1 HB HD
        go_wp2_with fail
        go_ret2
        exact ⟨ret_int2 (by rw [x]; rfl) (by rw [y]; rfl), HR3.out, HO3.out⟩
    · obtain ⟨x, y⟩ := HB.out (4, 2) (by rw [HD.out]; simp [g1, g2])
      rw [decide_eq_true g1] at hsq
      have g2' : ((m1 : Int) != 1) = true := by rw [bne_iff_ne]; omega
      clear g1 HB HD
      go_wp2_with fail
      go_ret2
      exact ⟨ret_int2 (by rw [x]; rfl) (by rw [y]; rfl), HR3.out, HO3.out⟩
  · obtain ⟨x, y⟩ := HB.out (0, 2) (by rw [HD.out]; simp [g1])
    rw [decide_eq_false g1] at hsq
    clear g1 HB HD
    go_wp2_with fail
    go_ret2
    exact ⟨ret_int2 (by rw [x]; rfl) (by rw [y]; rfl), HR3.out, HO3.out⟩

set_option maxHeartbeats 1000000 in
theorem clone_any {v : Value} {bs : List UInt8} {w : World} (hv : Bs w v bs) (hb : bs.length ≤ 1000000000) :
    Calls Try.prog 43 #[v] w fun e w' => ∃ v', e = .returned v' ∧ Own w' w.heap.size 5 v' bs ∧ Below w.heap.size w w' := by
  have HV : Hid (Bs w v bs) := hv
  obtain ⟨a, c, rfl, h1, h2, h3⟩ := hv
  clear h3
  unfold maxLen at h2
  have heq : ∀ w, (binOp .eql 22 (.slice a bs.length c) (.slice none 0 0)).run Try.prog w = .ok (.bool a.isNone) w := fun w => Lib.run_eql_slice_nil w 22 5 a bs.length c 0 0 Try.underlying22
  cases a with
  | none =>
    simp only [Option.isNone_none] at heq
    go_enter Try.func43, Try.ntmps43
    go_wp2_with fail
    go_ret
    refine ⟨_, rfl, ?_, Below.refl _ _⟩
    obtain ⟨a', c', e, _, _, g3⟩ := HV.out
    simp only [Value.slice.injEq] at e
    have : bs = [] := by
      by_cases hb : bs = []
      · exact hb
      · obtain ⟨b, off, hh, _⟩ := g3 hb; rw [← e.1] at hh; simp at hh
    subst this
    exact Own.nil _ _ _
  | some ad =>
    simp only [Option.isNone_some] at heq
    have HV2 : Hid (Bs (w.alloc (Obj.cells #[] 5)) (.slice (some ad) bs.length c) bs) := HV.out.later ((Below.refl _ _).alloc (Nat.le_refl _) _)
    go_enter Try.func43, Try.ntmps43
    go_wp2_with (at_builtin; go_must (refine wpList_append_bs rfl _ _ _ rfl (w.heap.size) 5 Try.underlying22 Try.infoU8 rfl rfl (Own.lit w w.heap.size 5 [] #[] 0 (Nat.le_refl _) rfl rfl (by decide)) HV2.out (by simp; omega) (by simp) ?_; intro v2 w2 ho2 hg2))
    go_ret
    obtain ⟨q1, q2, q3, q4⟩ := copied ho2 hg2
    exact ⟨_, rfl, by simpa using ho2, q2⟩

theorem RdAt.other {w w' : World} {rb g : Nat} {bs : List UInt8} {at_ : Nat} (h : RdAt w rb bs at_) (ho : Only g w w') (hne : rb ≠ g) {C : Array Value} {t : TypeId} (hg : w.heap[g]? = some (Obj.cells C t (0, 0))) (hC : ∀ (i : Nat) (n : Int), C[i]? ≠ some (.int .u8 n)) : RdAt w' rb bs at_ := by
  have hlt := h.lt
  obtain ⟨h1, h2, sv, h3, h4, h5⟩ := h
  refine ⟨h1, h2, sv, (ho.block rb hlt hne).trans h3, h4.only ho fun hb e => ?_, h5⟩
  obtain ⟨a, c, rfl, _, _, g3⟩ := h4
  obtain ⟨b, off, rfl, _, hc⟩ := g3 hb
  simp [Value.ownBlock] at e
  subst e
  have := hc 0 (by cases bs with | nil => exact absurd rfl hb | cons _ _ => simp)
  simp only [World.cell?, hg] at this
  exact hC _ _ (by simpa using this)

set_option maxRecDepth 100000 in
set_option maxHeartbeats 1000000 in
theorem entry_any {w : World} {rb : Nat} {bs : List UInt8} {at_ : Nat} (h : RdAt w rb bs at_) (hl : at_ + 12 ≤ bs.length) :
    Calls Try.prog 23 #[.pointer (some ⟨rb, 0, none⟩)] w fun e w' => e = .returned (.tuple #[.agg #[.int .u64 (numAt bs at_ 4 : Int), .int .u64 (numAt bs (at_ + 4) 4 : Int)], .string ⟨(seg bs (at_ + 8) 4).toArray⟩]) ∧ RdAt w' rb bs (at_ + 12) ∧ Only rb w w' := by
  have hrb := h.lt
  have h' : RdAt (w.alloc (Obj.cells #[.int .u64 0, .int .u64 0] 59)) rb bs at_ := h.only ((Below.refl _ _).alloc (Nat.le_refl _) _)
  have HO0 : Hid (Only rb w (w.alloc (Obj.cells #[.int .u64 0, .int .u64 0] 59))) := Only.of_below ((Below.refl _ _).alloc (Nat.le_refl _) _)
  have HC0 : Hid ((w.alloc (Obj.cells #[.int .u64 0, .int .u64 0] 59)).heap[w.heap.size]? = some (Obj.cells #[.int .u64 0, .int .u64 0] 59 (0, 0))) := heap_alloc_new w _
  clear h
  go_enter Try.func23, Try.ntmps23
  go_wp2_with fail
  refine (num_yes h' 4 rfl (by omega) (by omega) (by omega)).mono ?_
  rintro e w1 ⟨rfl, hr1, ho1⟩
  have HO1 : Hid (Only rb w w1) := HO0.out.trans ho1
  have HC1 : Hid (w1.heap[w.heap.size]? = some (Obj.cells #[.int .u64 0, .int .u64 0] 59 (0, 0))) := (ho1.block _ (by simp) (by omega)).trans HC0.out
  have hs1 := ho1.size
  simp only [World.size_alloc] at hs1
  clear ho1 h' HO0 HC0
  go_wp2_with fail
  refine (num_yes hr1 4 rfl (by omega) (by omega) (by omega)).mono ?_
  rintro e w2 ⟨rfl, hr2, ho2⟩
  have HO2 : Hid (Only rb w w2) := HO1.out.trans ho2
  have HC2 : Hid (w2.heap[w.heap.size]? = some (Obj.cells #[.int .u64 0, .int .u64 0] 59 (0, 0))) := (ho2.block _ (by omega) (by omega)).trans HC1.out
  have hs2 := ho2.size
  clear ho2 hr1 HO1 HC1
  go_wp2_with fail
  refine (take_new hr2 4 (by omega)).mono ?_
  rintro e w3 ⟨v3, rfl, hb3, hr3, ho3, hp3⟩
  have HO3 : Hid (Only rb w w3) := HO2.out.trans ho3
  have hc3 : w3.heap[w.heap.size]? = some (Obj.cells #[.int .u64 0, .int .u64 0] 59 (0, 0)) := (ho3.block _ (by omega) (by omega)).trans HC2.out
  have hs3 := ho3.size
  have d0 : w3.cell? ⟨w.heap.size, 0, none⟩ = some (.int .u64 0) := by simp [World.cell?, hc3]
  have d1 : w3.cell? ⟨w.heap.size, 1, none⟩ = some (.int .u64 0) := by simp [World.cell?, hc3]
  have d2 : w3.frozen? ⟨w.heap.size, 0, none⟩ = false := by simp [World.frozen?, hc3]
  have d3 : w3.frozen? ⟨w.heap.size, 1, none⟩ = false := by simp [World.frozen?, hc3]
  have HR3 : Hid (∀ W, Only w.heap.size w3 W → RdAt W rb bs (at_ + 12)) := fun W hW => hr3.other hW (by omega) hc3 (fun i n => by
    match i with
    | 0 => simp
    | 1 => simp
    | _ + 2 => simp)
  have HO4 : Hid (∀ W, Only w.heap.size w3 W → Only rb w W) := fun W hW => ⟨hW.os.trans HO3.out.os, hW.tape.trans HO3.out.tape, hW.output.trans HO3.out.output, Nat.le_trans HO3.out.size hW.size, fun k hk hne => (hW.block k (by omega) (by omega)).trans (HO3.out.block k hk hne)⟩
  have HB3 : Hid (∀ W, Only w.heap.size w3 W → Bs W v3 (seg bs (at_ + 8) 4)) := fun W hW => hb3.only hW fun _ e => by have := hp3 _ e; omega
  have HCV : Hid (∀ W, Only w.heap.size w3 W → (convert 22 9 v3).run Try.prog W = .ok (.string ⟨(seg bs (at_ + 8) 4).toArray⟩) W) := fun W hW => convert_bs (HB3.out W hW)
  have HX : Hid (leN (seg bs at_ 4) = numAt bs at_ 4 ∧ leN (seg bs (at_ + 4) 4) = numAt bs (at_ + 4) 4) := ⟨rfl, rfl⟩
  rw [HX.out.1, HX.out.2]
  obtain ⟨a3, c3, e3, -⟩ := hb3
  subst e3
  clear hc3 ho3 hr2 HC2 HO2 hr3 hp3 HB3
  generalize (seg bs (at_ + 8) 4).length = sl at *
  go_wp2_with fail
  go_region_held3 (fun w' => (convert 22 9 (.slice a3 sl c3)).run Try.prog w' = .ok (.string ⟨(seg bs (at_ + 8) 4).toArray⟩) w') (first | (exact HCV.out _ ((Only.refl _ _).drewN 1)) | (exact HCV.out _ (Only.setCell (Only.setCell ((Only.refl _ _).drewN 1) 0 _) 1 _))) (fail)
  go_wp2_with fail
  have hfin : Only w.heap.size w3 ((w3.setCell ⟨w.heap.size, 0, none⟩ (.int .u64 (numAt bs at_ 4 : Int))).setCell ⟨w.heap.size, 1, none⟩ (.int .u64 (numAt bs (at_ + 4) 4 : Int))).drew := Only.drewN (Only.setCell (Only.setCell (Only.refl _ _) 0 _) 1 _) 1
  exact bodyPost_ret (v := .tuple #[.agg #[.int .u64 (numAt bs at_ 4 : Int), .int .u64 (numAt bs (at_ + 4) 4 : Int)], .string ⟨(seg bs (at_ + 8) 4).toArray⟩]) (by simp [results, Try.results23, go_sem, d0, d1]) rfl ⟨rfl, HR3.out _ hfin, HO4.out _ hfin⟩

end Go.Proofs.Ytbehcdpjpjklfaa
