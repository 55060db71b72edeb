
/- Names of the pool. -/
import Derived.Test.YtlcfbnbbdpgjiaaRows
import Derived.Test.YtlcfbnbbdpgjiaaPools
namespace Go.Proofs.Ytlcfbnbbdpgjiaa
set_option linter.unusedVariables false
set_option linter.unusedSimpArgs false
open Go.RowKit Go.Maps

def encN (s : List UInt8) : List UInt8 := s ++ [0]
def tls (ss : List ByteArray) : List (List UInt8) := ss.map fun s => s.data.toList
theorem tls_length (ss : List ByteArray) : (tls ss).length = ss.length := by simp [tls]
theorem tls_get (ss : List ByteArray) (k : Nat) (h : k < ss.length) : (tls ss)[k]'(by rw [tls_length]; exact h) = ss[k].data.toList := by simp [tls]

theorem Try.infoInt : (Try.prog.info? 3).map (fun i => (i.zero, i.size, i.bytes)) = some (some (.int .i64 0), 1, 8) := by kernel_rfl

theorem run_make_int (w : World) (n : Nat) (hn : n ≤ 17592186044416) :
    (Instr.makeSlice 28 (.int .i64 (n : Int)) (.int .i64 (n : Int))).run Try.prog w = .ok (.slice (some ⟨w.heap.size, 0, none⟩) n n) (w.alloc (Obj.cells (madeCells #[.int .i64 0] n) 3)) := by
  obtain ⟨i, hi, hz0, hz1, hz2⟩ := info_parts Try.infoInt
  have := run_make (P := Try.prog) w 28 3 i (.int .i64 0) Try.underlying28 hi hz0 .i64 .i64 (n : Int) (n : Int) (by omega) (by omega) (by rw [hz2]; omega) (by omega)
  rw [this, hz1]
  simp [Value.cells]

/-- One that isn't a name. -/
theorem names_bad (b off cap : Nat) (ss : List ByteArray) (w : World) (hn : ss.length ≤ 8796093021952) (hc : ∀ i (h : i < ss.length), w.cell? ⟨b, off + i, none⟩ = some (.string ss[i])) (hbad : (tls ss).all fineB = false) :
    Calls Try.prog 11 #[.slice (some ⟨b, off, none⟩) ss.length cap] w fun e w' => e = .returned (.tuple #[.slice none 0 0, .slice none 0 0, .int .i64 18]) ∧ w' = w := by
  have HC : Hid (∀ i (h : i < ss.length), w.cell? ⟨b, off + i, none⟩ = some (.string ss[i])) := hc
  have HX : Hid ((tls ss).all fineB = false) := hbad
  clear hc hbad
  go_enter Try.func11, Try.ntmps11
  go_wp2_with fail
  go_loopw [15] (fun i wr => ∃ k : Nat, k ≤ ss.length ∧ i = .int .i64 k ∧ wr = w ∧ ((tls ss).take k).all fineB = true) (fun i _ => ss.length - (intOf i).toNat)
  case atStart => exact ⟨0, Nat.zero_le _, rfl, rfl, by simp⟩
  case round =>
    obtain ⟨k, hk, rfl, rfl, ht⟩ := hrel
    have HT : Hid (((tls ss).take k).all fineB = true) := ht
    clear ht
    by_cases hlt : k < ss.length
    · have hcell := HC.out k hlt
      have hS : Hid ((tls ss).take (k + 1) = (tls ss).take k ++ [ss[k].data.toList]) := by
        show _ = _
        rw [List.take_succ_eq_append_getElem (by rw [tls_length]; exact hlt), tls_get ss k hlt]
      generalize ss[k] = s at *
      cases hf : fineB s.data.toList with
      | true =>
        have HN : Hid (((tls ss).take (k + 1)).all fineB = true) := by
          show _ = _
          rw [hS.out, List.all_append, HT.out]; simp [hf]
        go_wp2_with fail
        refine (fine_any s _).mono ?_
        rintro e wz ⟨rfl, hz⟩
        subst wz
        rw [hf]
        go_wp2_with fail
        go_roundw
        case rel => exact ⟨k + 1, by omega, by go_num, by simp, HN.out⟩
        case measure => simp [intOf]; omega
      | false =>
        go_wp2_with fail
        refine (fine_any s _).mono ?_
        rintro e wz ⟨rfl, hz⟩
        subst wz
        rw [hf]
        go_wp2_with fail
        go_ret3
        exact ⟨rfl, rfl⟩
    · exfalso
      have h1 := HT.out
      rw [List.take_of_length_le (by rw [tls_length]; omega), HX.out] at h1
      simp at h1

theorem fine_pos {s : ByteArray} (h : fineB s.data.toList = true) : 1 ≤ s.size ∧ s.size ≤ 24 := by
  simp only [fineB, Bool.and_eq_true, decide_eq_true_eq, toList_len] at h
  exact ⟨h.1.1, h.1.2⟩

set_option maxRecDepth 100000 in
set_option maxHeartbeats 1000000 in
theorem names_ok (b off cap : Nat) (ss : List ByteArray) (w : World) (hbl : b < w.heap.size) (hn : ss.length ≤ 8796093021952) (hc : ∀ i (h : i < ss.length), w.cell? ⟨b, off + i, none⟩ = some (.string ss[i])) (hall : (tls ss).all fineB = true)
    (hfit : ∀ k, k ≤ ss.length → (pall encN ((tls ss).take k)).B.length ≤ 65536) :
    Calls Try.prog 11 #[.slice (some ⟨b, off, none⟩) ss.length cap] w fun e w' => ∃ bv av, e = .returned (.tuple #[bv, av, .int .i64 0]) ∧ Bs w' bv (pall encN (tls ss)).B ∧ Is w' av ((pall encN (tls ss)).ats.map fun (a : Nat) => (a : Int)) ∧ Below w.heap.size w w' := by
  have HC : Hid (∀ i (h : i < ss.length), w.cell? ⟨b, off + i, none⟩ = some (.string ss[i])) := hc
  have HX : Hid (∀ i (h : i < ss.length), fineB ss[i].data.toList = true) := fun i h => by
    rw [List.all_eq_true] at hall
    exact hall _ (by simp only [tls, List.mem_map]; exact ⟨ss[i], List.getElem_mem _, rfl⟩)
  have HF : Hid (∀ k, k ≤ ss.length → (pall encN ((tls ss).take k)).B.length ≤ 65536) := hfit
  have HG : Hid (∀ k, Good (pall encN ((tls ss).take k)) ((tls ss).take k)) := fun k => good_all encN (fun s _ => by simp [encN]) _
  clear hc hall hfit
  have hmk := fun w => run_make_int w ss.length (by omega)
  go_enter Try.func11, Try.ntmps11
  go_wp2_with fail
  go_loopw [15] (fun i wr => ∃ k : Nat, k ≤ ss.length ∧ i = .int .i64 k ∧ wr = w) (fun i _ => ss.length - (intOf i).toNat)
  case atStart => exact ⟨0, Nat.zero_le _, rfl, rfl⟩
  case round =>
    obtain ⟨k, hk, rfl, hwr⟩ := hrel
    subst wr
    by_cases hlt : k < ss.length
    · have hcell := HC.out k hlt
      have hf := HX.out k hlt
      generalize ss[k] = s at *
      go_wp2_with fail
      refine (fine_any s _).mono ?_
      rintro e wz ⟨rfl, hz⟩
      subst wz
      rw [hf]
      go_wp2_with fail
      go_roundw
      case rel => exact ⟨k + 1, by omega, by go_num, by simp⟩
      case measure => simp [intOf]; omega
    · go_wp2_with fail
      refine (newMaker_any _).mono ?_
      rintro e w1 ⟨mb, bm, pv, rfl, hmk1, hb1⟩
      have HM1 : Hid (Mk w1 w.heap.size mb bm pv [0] M0) := hmk1
      have HB1 : Hid (Below w.heap.size w w1) := hb1
      have hs1 := hb1.size
      clear hmk1 hb1
      go_wp2_with fail
      go_loopw [29] (fun i wq => ∃ (j : Nat) (pv' : Value), j ≤ ss.length ∧ i = .int .i64 j ∧ Mk wq w.heap.size mb bm pv' (pall encN ((tls ss).take j)).B (pall encN ((tls ss).take j)).M ∧ Pl wq w1.heap.size ss.length (pall encN ((tls ss).take j)).ats ∧ Below w.heap.size w wq) (fun i _ => ss.length - (intOf i).toNat)
      case atStart => exact ⟨0, pv, Nat.zero_le _, rfl, HM1.out.later ((Below.refl _ _).alloc (Nat.le_refl _) _), Pl.made w1 _ _ (by simp [madeCells]), HB1.out.alloc hs1 _⟩
      case round =>
        obtain ⟨j, pv', hj, rfl, hm, hp, hb⟩ := hrel
        have HM : Hid (Mk wr w.heap.size mb bm pv' (pall encN ((tls ss).take j)).B (pall encN ((tls ss).take j)).M) := hm
        have HP : Hid (Pl wr w1.heap.size ss.length (pall encN ((tls ss).take j)).ats) := hp
        have HB : Hid (Below w.heap.size w wr) := hb
        have hws := hb.size
        clear hm hp hb
        by_cases hjl : j < ss.length
        · have hcell : wr.cell? ⟨b, off + j, none⟩ = some (.string ss[j]) := by
            rw [← HC.out j hjl]; exact World.cell?_of_block (HB.out.block b hbl)
          have HE : Hid (pall encN ((tls ss).take (j + 1)) = pstep encN (pall encN ((tls ss).take j)) ss[j].data.toList) := by
            show _ = _
            rw [pall_succ encN (tls ss) j (by rw [tls_length]; exact hjl), tls_get ss j hjl]
          have HL : Hid ((pall encN ((tls ss).take j)).ats.length = j) := by
            show _ = _
            rw [(HG.out j).len]; simp [tls_length]; omega
          have HZ : Hid (ss[j].size ≤ maxLen) := Nat.le_trans (fine_pos (HX.out j hjl)).2 (by decide)
          have HFj := HF.out (j + 1) hjl
          rw [HE.out] at HFj
          have HFF : Hid _ := HFj
          clear HFj
          generalize ss[j] = s at *
          go_wp2_with fail
          refine (put_any (HM.out.later ((Below.refl _ _).alloc (Nat.le_refl _) _)) s (HG.out j).nil HZ.out encN (Bs.nil _) (bs_lit wr [0] _ _ _ rfl rfl (by decide)) (by simp [encN]) (.inr ⟨wr.heap.size, _, _, rfl, heap_alloc_new wr _, fun e => absurd (HM.out.pvlt _ e) (Nat.lt_irrefl _)⟩) HFF.out).mono ?_
          rintro e w2 ⟨rfl, ⟨pv2, hm2⟩, hb2, hi2⟩
          have HM2 : Hid _ := hm2
          have HP2 : Hid (Pl w2 w1.heap.size ss.length (pall encN ((tls ss).take j)).ats) := (HP.out.later ((Below.refl _ _).alloc (Nat.le_refl _) _)).kept hi2
          have HB2 : Hid (Below w.heap.size w w2) := (HB.out.alloc hws _).trans hb2
          clear hm2 hb2 hi2
          obtain ⟨⟨x, hx⟩, hfz⟩ := HP2.out.cells j hjl
          have HS : Hid _ := pool_step HM2.out HP2.out HB2.out HL.out hjl hs1 HE.out
          go_wp2_with fail
          go_roundw
          case rel => exact ⟨j + 1, pv2, by omega, by go_num, HS.out.1, HS.out.2.1, HS.out.2.2⟩
          case measure => simp [intOf]; omega
        · have e : j = ss.length := by omega
          subst e
          obtain ⟨hpb, hpc⟩ := HM.out.bs
          have HBS : Hid (Bs wr pv' (pall encN (tls ss)).B) := by
            have := hpb; rw [List.take_of_length_le (by rw [tls_length]; exact Nat.le_refl _)] at this; exact this
          have HIS : Hid (Is wr (.slice (some ⟨w1.heap.size, 0, none⟩) ss.length ss.length) ((pall encN (tls ss)).ats.map fun (a : Nat) => (a : Int))) := by
            have := HP.out.is (by rw [(HG.out _).len]; simp [tls_length]) (by unfold maxLen; omega)
            rw [List.take_of_length_le (by rw [tls_length]; exact Nat.le_refl _)] at this; exact this
          clear hpb
          go_wp2_with fail
          go_ret3
          exact ⟨_, _, rfl, HBS.out, HIS.out, HB.out⟩

theorem names_none (a : Option Addr) (cap : Nat) (w : World) :
    Calls Try.prog 11 #[.slice a 0 cap] w fun e w' => ∃ bv av, e = .returned (.tuple #[bv, av, .int .i64 0]) ∧ Bs w' bv [0] ∧ Is w' av [] ∧ Below w.heap.size w w' := by
  have hmk := fun w => run_make_int w 0 (by omega)
  simp only [Int.natCast_zero, Int.ofNat_eq_natCast] at hmk
  go_enter Try.func11, Try.ntmps11
  go_wp2_with fail
  refine wp_loop_rounds 1 ?_; rw [rounds_succ]
  go_wp2_with fail
  refine (newMaker_any _).mono ?_
  rintro e w1 ⟨mb, bm, pv, rfl, hmk1, hb1⟩
  have HM1 : Hid (Mk (w1.alloc (Obj.cells (madeCells #[.int .i64 0] 0) 3)) w.heap.size mb bm pv [0] M0) := hmk1.later ((Below.refl _ _).alloc (Nat.le_refl _) _)
  have HB1 : Hid (Below w.heap.size w w1) := hb1
  have hs1 := hb1.size
  obtain ⟨h1, h2⟩ := HM1.out.bs
  have HBS : Hid (Bs (w1.alloc (Obj.cells (madeCells #[.int .i64 0] 0) 3)) pv [0]) := h1
  clear hmk1 hb1 h1
  go_wp2_with fail
  refine wp_loop_rounds 1 ?_; rw [rounds_succ]
  go_wp2_with fail
  go_ret3
  exact ⟨_, _, rfl, HBS.out, ⟨_, 0, rfl, Nat.le_refl _, Nat.zero_le _, fun h => absurd rfl h⟩, HB1.out.alloc hs1 _⟩

/-- Names, of any list of names whose pool is not too long. -/
theorem names_yes {v : Value} {ss : List ByteArray} {w : World} (h : Ss w v ss) (hn : ss.length ≤ 8796093021952) (hall : (tls ss).all fineB = true) (hfit : ∀ k, k ≤ ss.length → (pall encN ((tls ss).take k)).B.length ≤ 65536) :
    Calls Try.prog 11 #[v] w fun e w' => ∃ bv av, e = .returned (.tuple #[bv, av, .int .i64 0]) ∧ Bs w' bv (pall encN (tls ss)).B ∧ Is w' av ((pall encN (tls ss)).ats.map fun (a : Nat) => (a : Int)) ∧ Below w.heap.size w w' := by
  obtain ⟨a, cap, rfl, h1, h2, h3⟩ := h
  rw [strs_length]
  by_cases h0 : ss = []
  · subst h0
    exact names_none a cap w
  · obtain ⟨b, off, rfl, hb, hc⟩ := h3 (by simpa [strs] using h0)
    exact names_ok b off cap ss w hb hn (fun i h => by rw [hc i (by rw [strs_length]; exact h)]; simp [strs]) hall hfit

theorem names_no {v : Value} {ss : List ByteArray} {w : World} (h : Ss w v ss) (hn : ss.length ≤ 8796093021952) (hall : (tls ss).all fineB = false) :
    Calls Try.prog 11 #[v] w fun e w' => e = .returned (.tuple #[.slice none 0 0, .slice none 0 0, .int .i64 18]) ∧ w' = w := by
  obtain ⟨a, cap, rfl, h1, h2, h3⟩ := h
  rw [strs_length]
  by_cases h0 : ss = []
  · subst h0; simp [tls] at hall
  · obtain ⟨b, off, rfl, hb, hc⟩ := h3 (by simpa [strs] using h0)
    exact names_bad b off cap ss w hn (fun i h => by rw [hc i (by rw [strs_length]; exact h)]; simp [strs]) hall

end Go.Proofs.Ytlcfbnbbdpgjiaa
