
/- Blobs of the pool. -/
import Derived.Test.YtlcfbnbbdpgjiaaRows
import Derived.Test.YtlcfbnbbdpgjiaaRefNames
namespace Go.Proofs.Ytlcfbnbbdpgjiaa
set_option linter.unusedVariables false
set_option linter.unusedSimpArgs false
open Go.RowKit Go.Maps

def encB (s : List UInt8) : List UInt8 := pkL s.length ++ s
theorem pkL_le (n : Nat) : 1 ≤ (pkL n).length ∧ (pkL n).length ≤ 4 := by unfold pkL; split <;> (try split) <;> simp

theorem blobs_fit (ls : List (List UInt8)) (hn : ls.length ≤ 60) (hz : ∀ l ∈ ls, l.length ≤ 300) : ∀ k, k ≤ ls.length → (pall encB (ls.take k)).B.length ≤ 65536 := by
  intro k hk
  have := pall_B encB ls 304 (fun s hs => by
    have h1 := (pkL_le s.length).2
    have h2 := hz s hs
    simp [encB]; omega) k hk
  omega

set_option maxRecDepth 100000 in
set_option maxHeartbeats 1000000 in
theorem blobs_ok (b off cap : Nat) (ls : List (List UInt8)) (vs : List Value) (hvl : vs.length = ls.length) (w : World) (hbl : b < w.heap.size) (hn : ls.length ≤ 60) (hz : ∀ l ∈ ls, l.length ≤ 300) (hc : ∀ i (h : i < vs.length), w.cell? ⟨b, off + i, none⟩ = some vs[i])
    (hbs : ∀ i (h : i < ls.length) (g : i < vs.length), Bs w vs[i] ls[i]) :
    Calls Try.prog 19 #[.slice (some ⟨b, off, none⟩) ls.length cap] w fun e w' => ∃ bv av, e = .returned (.tuple #[bv, av, .int .i64 0]) ∧ Bs w' bv (pall encB ls).B ∧ Is w' av (ints (pall encB ls).ats) ∧ Below w.heap.size w w' := by
  have HC : Hid (∀ i (h : i < vs.length), w.cell? ⟨b, off + i, none⟩ = some vs[i]) := hc
  have HV : Hid (∀ i (h : i < ls.length) (g : i < vs.length), Bs w vs[i] ls[i]) := hbs
  have HZ : Hid (∀ i (h : i < ls.length), ls[i].length ≤ 300) := fun i h => hz _ (List.getElem_mem _)
  have HF : Hid (∀ k, k ≤ ls.length → (pall encB (ls.take k)).B.length ≤ 65536) := blobs_fit ls hn hz
  have HG : Hid (∀ k, Good (pall encB (ls.take k)) (ls.take k)) := fun k => good_all encB (fun s _ => by have := (pkL_le s.length).1; simp [encB]; omega) _
  clear hc hz hbs
  have hmk := fun w => run_make_int w ls.length (by omega)
  go_enter Try.func19, Try.ntmps19
  go_wp2_with fail
  refine (newMaker_any _).mono ?_
  rintro e w1 ⟨mb, bm, pv, rfl, hmk1, hb1⟩
  have HM1 : Hid (Mk w1 w.heap.size mb bm pv [0] M0) := hmk1
  have HB1 : Hid (Below w.heap.size w w1) := hb1
  have hs1 := hb1.size
  clear hmk1 hb1
  go_wp2_with fail
  go_loopw [18] (fun i wq => ∃ (j : Nat) (pv' : Value), j ≤ ls.length ∧ i = .int .i64 j ∧ Mk wq w.heap.size mb bm pv' (pall encB (ls.take j)).B (pall encB (ls.take j)).M ∧ Pl wq w1.heap.size ls.length (pall encB (ls.take j)).ats ∧ Below w.heap.size w wq) (fun i _ => ls.length - (intOf i).toNat)
  case atStart => exact ⟨0, pv, Nat.zero_le _, rfl, HM1.out.later ((Below.refl _ _).alloc (Nat.le_refl _) _), Pl.made w1 _ _ (by simp [madeCells]), HB1.out.alloc hs1 _⟩
  case round =>
    obtain ⟨j, pv', hj, rfl, hm, hp, hb⟩ := hrel
    have HM : Hid (Mk wr w.heap.size mb bm pv' (pall encB (ls.take j)).B (pall encB (ls.take j)).M) := hm
    have HP : Hid (Pl wr w1.heap.size ls.length (pall encB (ls.take j)).ats) := hp
    have HB : Hid (Below w.heap.size w wr) := hb
    have hws := hb.size
    clear hm hp hb
    by_cases hjl : j < ls.length
    · have hcell : wr.cell? ⟨b, off + j, none⟩ = some vs[j] := by
        rw [← HC.out j (by omega)]; exact World.cell?_of_block (HB.out.block b hbl)
      have HE : Hid (pall encB (ls.take (j + 1)) = pstep encB (pall encB (ls.take j)) ls[j]) := pall_succ encB ls j hjl
      have HL : Hid ((pall encB (ls.take j)).ats.length = j) := by
        show _ = _
        rw [(HG.out j).len]; simp; omega
      have hzj := HZ.out j hjl
      have HFj := HF.out (j + 1) hjl
      rw [HE.out] at HFj
      have HFF : Hid _ := HFj
      clear HFj
      have HVj : Hid (Bs wr vs[j] ls[j]) := (HV.out j hjl (by omega)).later HB.out
      generalize vs[j] = x at *
      generalize ls[j] = l at *
      obtain ⟨xa, xc, ex, -⟩ := HVj.out
      subst ex
      go_wp2_with fail
      refine (pack_bs (Bs.nil wr) (by simp) l.length (by omega) (pkL l.length).length (by simp)).mono ?_
      rintro e w2 ⟨rfl, hpk, hb2, -⟩
      have HPK : Hid (Bs w2 (.slice (some ⟨wr.heap.size, 0, none⟩) (pkL l.length).length (pkL l.length).length) (pkL l.length)) := by show Bs _ _ _; simpa using hpk
      have HV2 : Hid (Bs w2 (.slice xa l.length xc) l) := HVj.out.later hb2
      have HM2 : Hid _ := HM.out.later hb2
      have HP2 : Hid (Pl w2 w1.heap.size ls.length (pall encB (ls.take j)).ats) := HP.out.later hb2
      have HB2 : Hid (Below w.heap.size w w2) := HB.out.trans (hb2.mono hws)
      have hcv := convert_bs HV2.out
      clear hpk hb2
      generalize (pkL l.length).length = pn at *
      go_wp2_with fail
      refine (put_any HM2.out ⟨l.toArray⟩ (HG.out j).nil (by show l.toArray.size ≤ _; simp [maxLen]; omega) encB HPK.out (Bs.nil _) (by simp [encB]) (.inl rfl) HFF.out).mono ?_
      rintro e w3 ⟨rfl, ⟨pv3, hm3⟩, hb3, hi3⟩
      have HM3 : Hid (Mk w3 w.heap.size mb bm pv3 (pstep encB (pall encB (ls.take j)) l).B (pstep encB (pall encB (ls.take j)) l).M) := hm3
      have HP3 : Hid (Pl w3 w1.heap.size ls.length (pall encB (ls.take j)).ats) := HP2.out.kept hi3
      have HB3 : Hid (Below w.heap.size w w3) := HB2.out.trans hb3
      clear hm3 hb3 hi3
      obtain ⟨⟨y, hy⟩, hfz⟩ := HP3.out.cells j hjl
      have HS : Hid _ := pool_step HM3.out HP3.out HB3.out HL.out hjl hs1 HE.out
      simp only at *
      go_wp2_with fail
      go_roundw
      case rel => exact ⟨j + 1, pv3, by omega, by go_num, HS.out.1, HS.out.2.1, HS.out.2.2⟩
      case measure => simp [intOf]; omega
    · have e : j = ls.length := by omega
      subst e
      obtain ⟨hpb, hpc⟩ := HM.out.bs
      have HBS : Hid (Bs wr pv' (pall encB ls).B) := by
        have := hpb; rw [List.take_of_length_le (Nat.le_refl _)] at this; exact this
      have HIS : Hid (Is wr (.slice (some ⟨w1.heap.size, 0, none⟩) ls.length ls.length) (ints (pall encB ls).ats)) := by
        have := HP.out.is (by rw [(HG.out _).len]; simp) (by unfold maxLen; omega)
        rw [List.take_of_length_le (Nat.le_refl _)] at this; exact this
      clear hpb
      go_wp2_with fail
      go_ret3
      exact ⟨_, _, rfl, HBS.out, HIS.out, HB.out⟩

theorem blobs_none (a : Option Addr) (cap : Nat) (w : World) :
    Calls Try.prog 19 #[.slice a 0 cap] w fun e w' => ∃ bv av, e = .returned (.tuple #[bv, av, .int .i64 0]) ∧ Bs w' bv [0] ∧ Is w' av [] ∧ Below w.heap.size w w' := by
  have hmk := fun w => run_make_int w 0 (by omega)
  simp only [Int.natCast_zero, Int.ofNat_eq_natCast] at hmk
  go_enter Try.func19, Try.ntmps19
  go_wp2_with fail
  refine (newMaker_any _).mono ?_
  rintro e w1 ⟨mb, bm, pv, rfl, hmk1, hb1⟩
  have HM1 : Hid (Mk (w1.alloc (Obj.cells (madeCells #[.int .i64 0] 0) 3)) w.heap.size mb bm pv [0] M0) := hmk1.later ((Below.refl _ _).alloc (Nat.le_refl _) _)
  have HB1 : Hid (Below w.heap.size w w1) := hb1
  have hs1 := hb1.size
  obtain ⟨h1, h2⟩ := HM1.out.bs
  have HBS : Hid (Bs (w1.alloc (Obj.cells (madeCells #[.int .i64 0] 0) 3)) pv [0]) := h1
  clear hmk1 hb1 h1
  go_wp2_with fail
  refine wp_loop_rounds 1 ?_; rw [rounds_succ]
  go_wp2_with fail
  go_ret3
  exact ⟨_, _, rfl, HBS.out, ⟨_, 0, rfl, Nat.le_refl _, Nat.zero_le _, fun h => absurd rfl h⟩, HB1.out.alloc hs1 _⟩

/-- Blobs, of any list that a statement takes. -/
theorem blobs_yes {v : Value} {ls : List (List UInt8)} {w : World} (h : Bss w v ls) (hn : ls.length ≤ 60) (hz : ∀ l ∈ ls, l.length ≤ 300) :
    Calls Try.prog 19 #[v] w fun e w' => ∃ bv av, e = .returned (.tuple #[bv, av, .int .i64 0]) ∧ Bs w' bv (pall encB ls).B ∧ Is w' av (ints (pall encB ls).ats) ∧ Below w.heap.size w w' := by
  obtain ⟨vs, hvl, ⟨a, cap, rfl, h1, h2, h3⟩, hb⟩ := h
  by_cases h0 : ls = []
  · subst h0
    rw [show vs.length = 0 from hvl]
    exact blobs_none a cap w
  · obtain ⟨b, off, rfl, hbl, hc⟩ := h3 (by intro e; subst e; simp at hvl; exact h0 (List.eq_nil_of_length_eq_zero hvl.symm))
    rw [hvl]
    exact blobs_ok b off cap ls vs hvl w hbl hn hz hc hb

end Go.Proofs.Ytlcfbnbbdpgjiaa
