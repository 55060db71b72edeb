
/- Decode. -/
import Derived.Test.YtpgkjfjooogfmaaDoorResolve7
import Derived.Test.YtpgkjfjooogfmaaDoorEnc7
namespace Go.Proofs.YtpgkjfjooogfmaaDoor
set_option linter.unusedVariables false
set_option linter.unusedSimpArgs false
open Go.RowKit

/-- What Decode leaves. -/
structure DecR (w w' : World) (bs : List UInt8) (e : Ending) : Prop where
  out : (∃ l m lv pv, Rdg bs l bs.length ∧ Ress (pls l) l m ∧ e = .returned (.tuple #[lv, pv, .int .i64 0, .int .i64 0]) ∧ Xs w' lv m ∧ Is w' pv (plcs l)) ∨
    (∃ at_ er, e = .returned (.tuple #[.slice none 0 0, .slice none 0 0, .int .i64 at_, .int .i64 er]) ∧ er ≠ 0 ∧ ¬ DecOk bs)
  below : Below w.heap.size w w'

theorem slice_ints {g n cap : Nat} (hn : n ≤ cap) : ∀ (W : World) (k2 : IntKind), (Instr.slice 24 (.slice (some ⟨g, 0, none⟩) (n + 1) cap) none (some (.int k2 (n : Int))) none).run Tryd.prog W = .ok (.slice (some ⟨g, 0, none⟩) n cap) W := by
  intro W k2
  obtain ⟨i, hi, hz0, hz1, hz2⟩ := info_parts Tryd.infoInt
  have b1 : (Instr.sliceBound (.int k2 (n : Int)) cap .sliceAcap).run Tryd.prog W = .ok n W := by rw [run_sliceBound _ _ _ _ _ (by omega) (by omega)]; simp
  have hadd : (⟨g, 0, none⟩ : Addr).add 0 = ⟨g, 0, none⟩ := by unfold Addr.add; split <;> simp_all
  simp [Instr.slice, run_underlying Tryd.underlying24, Instr.sliceBounds, b1, sizeOf, typeInfo, hi, hz1, hadd]

theorem is_take {W : World} {base g n cap : Nat} {L : List Int} (h : OwnI W base (.slice (some ⟨g, 0, none⟩) (n + 1) cap) L) (hn : n ≤ L.length) : Is W (.slice (some ⟨g, 0, none⟩) n cap) (L.take n) := by
  obtain ⟨g', c', e, h1, h2, h3, h4, hc⟩ := h.parts (by
    intro e; subst e
    have h5 := OwnV.sl h
    obtain ⟨a, c, e, _⟩ := h5
    simp [i64s] at e)
  simp only [Value.slice.injEq, Option.some.injEq, Addr.mk.injEq, true_and, and_true] at e
  obtain ⟨rfl, e2, rfl⟩ := e
  refine ⟨_, cap, by rw [i64s_length]; simp; omega, by rw [i64s_length]; simp; omega, h2, fun _ => ⟨g, 0, rfl, h4, fun i hi => ?_⟩⟩
  rw [i64s_length] at hi
  have hi2 : i < L.length := by simp at hi; omega
  rw [Nat.zero_add, hc i hi2]
  simp [i64s]

set_option maxHeartbeats 4000000 in
set_option maxRecDepth 100000 in
theorem decode_any {v : Value} {bs : List UInt8} {w : World} (hv : Bs w v bs) (hl : bs.length ≤ 100000) (hW : Wd w) :
    Calls Tryd.prog 15 #[v] w fun e w' => DecR w w' bs e := by
  have HN : Hid (Calls Tryd.prog 26 #[v] w fun e w' => e = .returned (.pointer (some ⟨w.heap.size + 1, 0, none⟩)) ∧ RdAt w' (w.heap.size + 1) bs 0 ∧ Below w.heap.size w w') := new_any hv (by omega)
  have HW : Hid (Wd w) := hW
  have hs0 := hW.1
  obtain ⟨va, vc, rfl, h1, h2, _⟩ := hv
  unfold maxLen at h2
  clear hW
  go_enter Tryd.func15, Tryd.ntmps15
  go_wp2_with fail
  refine Calls.mono HN.out ?_
  rintro e w1 ⟨rfl, hR1, hb1⟩
  have hrl := hR1.lt
  have hbx : Below w1.heap.size w1 (w1.alloc (.cells #[.pointer (some ⟨w.heap.size + 1, 0, none⟩)] 66)) := (Below.refl _ _).alloc (Nat.le_refl _) _
  have HB2 : Hid (Below w.heap.size w (w1.alloc (.cells #[.pointer (some ⟨w.heap.size + 1, 0, none⟩)] 66))) := hb1.trans (hbx.mono hb1.size)
  have HRA : Hid (Calls Tryd.prog 27 #[.pointer (some ⟨w1.heap.size, 0, none⟩)] (w1.alloc (.cells #[.pointer (some ⟨w.heap.size + 1, 0, none⟩)] 66)) fun e w' => AllR (w1.alloc (.cells #[.pointer (some ⟨w.heap.size + 1, 0, none⟩)] 66)) w' w1.heap.size (w.heap.size + 1) bs e) :=
    readAll_any ⟨At.made _ _ _, hR1.only hbx, by omega⟩ hl (HW.out.later HB2.out) (by omega)
  clear hR1 hb1 hbx HN
  go_wp2_with fail
  refine Calls.mono HRA.out ?_
  rintro e w3 ⟨hout, hO⟩
  have HB3 : Hid (Below w.heap.size w w3) := HB2.out.trans (hO.below (by omega) HB2.out.size)
  clear HRA hO
  rcases hout with ⟨l, lv, pv, hRg, rfl, hX, hI⟩ | ⟨l, a, at_, er, hRg, ha, hst, rfl, her⟩
  · obtain ⟨hf1, hf2, hf3⟩ := hRg.facts
    have HRg : Hid (Rdg bs l bs.length) := hRg
    have HX : Hid (OwnX w3 (w1.alloc (.cells #[.pointer (some ⟨w.heap.size + 1, 0, none⟩)] 66)).heap.size lv l) := hX
    obtain ⟨la, lc, rfl, hl1, hl2⟩ := hX.xs.shape
    obtain ⟨pg, pc, rfl, hp1, hp2, hp3, hp4, hpc⟩ := hI.parts (by intro e; have := plcs_length l; rw [e] at this; simp at this)
    rw [plcs_length] at hp1 ⊢
    have HI : Hid (OwnI w3 (w1.alloc (.cells #[.pointer (some ⟨w.heap.size + 1, 0, none⟩)] 66)).heap.size (.slice (some ⟨pg, 0, none⟩) (l.length + 1) pc) (plcs l)) := by
      have := hI
      rw [plcs_length] at this
      exact this
    have hsl := slice_ints (g := pg) (n := l.length) (cap := pc) (by omega)
    have hbs : (w1.alloc (.cells #[.pointer (some ⟨w.heap.size + 1, 0, none⟩)] 66)).heap.size ≤ w3.heap.size := by omega
    have HRs : Hid (Calls Tryd.prog 28 #[.slice la l.length lc, .slice (some ⟨pg, 0, none⟩) l.length pc] w3 fun e w' => ResR w3 w' (w1.alloc (.cells #[.pointer (some ⟨w.heap.size + 1, 0, none⟩)] 66)).heap.size (.slice la l.length lc) (.slice (some ⟨pg, 0, none⟩) (l.length + 1) pc) l (pls l) (plcs l) e) :=
      resolve_any HX.out HI.out hf3 (by rw [pls_length]; omega) (pls_rise l) hbs (fun W hW => is_take hW (by rw [plcs_length]; omega))
    have hwb : w.heap.size ≤ (w1.alloc (.cells #[.pointer (some ⟨w.heap.size + 1, 0, none⟩)] 66)).heap.size := HB2.out.size
    have HWB : Hid (w.heap.size ≤ (w1.alloc (.cells #[.pointer (some ⟨w.heap.size + 1, 0, none⟩)] 66)).heap.size) := hwb
    unfold maxLen at hl2 hp2
    clear hX hI hRg hpc hp3 hp4 hf1 hf2 hbs hwb
    go_wp2_with fail
    refine Calls.mono HRs.out ?_
    rintro e w5 ⟨hout, hI5, hB5⟩
    have HB5 : Hid (Below w.heap.size w w5) := HB3.out.trans (hB5.mono HWB.out)
    rcases hout with ⟨m, rfl, hX5, hRs⟩ | ⟨i, hi, rfl, hno⟩
    · have HX5 : Hid (Xs w5 (.slice la l.length lc) m) := hX5.xs
      have HI5 : Hid (Is w5 (.slice (some ⟨pg, 0, none⟩) (l.length + 1) pc) (plcs l)) := hI5.is
      have HRes : Hid (Ress (pls l) l m) := hRs
      clear hX5 hI5 hRs hB5
      go_wp2_with fail
      refine bodyPost_ret (v := .tuple #[.slice la l.length lc, .slice (some ⟨pg, 0, none⟩) (l.length + 1) pc, .int .i64 0, .int .i64 0]) (by simp [results, Tryd.results15, go_sem]) rfl ?_
      exact ⟨.inl ⟨l, m, _, _, HRg.out, HRes.out, rfl, HX5.out, HI5.out⟩, HB5.out⟩
    · have HNo : Hid (¬ DecOk bs) := by
        rintro ⟨l', m', h1, h2⟩
        have e := HRg.out.one h1
        subst e
        exact hno _ (h2.2 i hi (by have := h2.1; omega))
      have hcell := hI5.cell i (by rw [plcs_length]; omega)
      clear hno hI5 hB5 HRs
      generalize (plcs l)[i]'(by rw [plcs_length]; omega) = pl at *
      go_wp2_with fail
      go_quiet (fail)
      go_wp2
      refine bodyPost_ret (v := .tuple #[.slice none 0 0, .slice none 0 0, .int .i64 pl, .int .i64 11]) (by simp [results, Tryd.results15, go_sem]) rfl ?_
      exact ⟨.inr ⟨_, 11, rfl, by decide, HNo.out⟩, Below.drewN HB5.out _⟩
  · have HNo : Hid (¬ DecOk bs) := by
      rintro ⟨l', m', h1, _⟩
      exact hRg.stuck ha hst h1
    have her' : (er != 0) = true := by rw [bne_iff_ne]; exact her
    have HER : Hid (er ≠ 0) := her
    clear hRg ha hst her
    by_cases h1 : er = 1
    · subst h1
      go_wp2_with fail
      refine bodyPost_ret (v := .tuple #[.slice none 0 0, .slice none 0 0, .int .i64 (bs.length : Int), .int .i64 1]) (by simp [results, Tryd.results15, go_sem]) rfl ?_
      exact ⟨.inr ⟨_, 1, rfl, by decide, HNo.out⟩, HB3.out⟩
    · have h1' : (er == 1) = false := by rw [beq_eq_false_iff_ne]; exact h1
      clear h1
      go_wp2_with fail
      refine bodyPost_ret (v := .tuple #[.slice none 0 0, .slice none 0 0, .int .i64 at_, .int .i64 er]) (by simp [results, Tryd.results15, go_sem]) rfl ?_
      exact ⟨.inr ⟨_, er, rfl, HER.out, HNo.out⟩, HB3.out⟩

end Go.Proofs.YtpgkjfjooogfmaaDoor
