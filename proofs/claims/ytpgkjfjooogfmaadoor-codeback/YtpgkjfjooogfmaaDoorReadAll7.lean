
/- readAll. -/
import Derived.Test.YtpgkjfjooogfmaaDoorReadOne7
namespace Go.Proofs.YtpgkjfjooogfmaaDoor
set_option linter.unusedVariables false
set_option linter.unusedSimpArgs false
open Go.RowKit
attribute [local go_sem ↓] Go.wp_at_zero Go.wp_at_succ

theorem rdI_some {bs : List UInt8} {a : Nat} {x : Ins} (h : rdI bs a = some x) : x = insD bs a ∧ (1 ≤ x.1 ∧ x.1 ≤ 75) ∧ a + 1 + opw x ≤ bs.length ∧ (opK x.1 = 5 ∨ rawB x = true) := by
  unfold rdI at h
  by_cases h1 : 1 ≤ opA bs a ∧ opA bs a ≤ 75
  · rw [if_pos h1] at h
    by_cases h2 : a + 1 + widN (opK (opA bs a)) ≤ bs.length
    · rw [if_pos h2] at h
      by_cases h3 : opK (opA bs a) = 5 ∨ rawB (insD bs a) = true
      · rw [if_pos h3] at h
        simp only [Option.some.injEq] at h
        subst h
        exact ⟨rfl, h1, h2, h3⟩
      · rw [if_neg h3] at h; cases h
    · rw [if_neg h2] at h; cases h
  · rw [if_neg h1] at h; cases h

/-- So far these instructions were read, up to that place. -/
def Rdg (bs : List UInt8) (l : List Ins) (a : Nat) : Prop := a = szL l ∧ l.length ≤ 160 ∧ ∀ k (hk : k < l.length), rdI bs (szL (l.take k)) = some l[k]
theorem Rdg.nil (bs : List UInt8) : Rdg bs [] 0 := ⟨rfl, by simp, fun k hk => absurd hk (by simp)⟩
theorem Rdg.snoc {bs : List UInt8} {l : List Ins} {a : Nat} {x : Ins} (h : Rdg bs l a) (ha : a < bs.length) (hl : l.length < 160) (hx : rdI bs a = some x) : Rdg bs (l ++ [x]) (a + 1 + opw x) := by
  obtain ⟨h1, h2, h3⟩ := h
  refine ⟨by rw [szL_append, h1]; simp [szL]; omega, by simp; omega, fun k hk => ?_⟩
  by_cases hkl : k < l.length
  · rw [List.take_append_of_le_length (by omega), List.getElem_append_left hkl]
    exact h3 k hkl
  · have e : k = l.length := by simp at hk; omega
    subst e
    have hs : (l ++ [x]).take l.length = l := by simp
    rw [hs, ← h1, hx]; simp
theorem Rdg.facts {bs : List UInt8} {l : List Ins} {a : Nat} (h : Rdg bs l a) : a = szL l ∧ a ≤ bs.length ∧ l.length ≤ 160 := by
  obtain ⟨h1, h2, h3⟩ := h
  refine ⟨h1, ?_, h2⟩
  by_cases hl : l.length = 0
  · have : l = [] := List.eq_nil_of_length_eq_zero hl
    subst this
    rw [h1]; simp [szL]
  · have hk : l.length - 1 < l.length := by omega
    have hr := (rdI_some (h3 _ hk)).2.2.1
    have hs := szL_succ l (l.length - 1) hk
    rw [show l.length - 1 + 1 = l.length by omega, List.take_length] at hs
    omega

theorem OwnX.only {w w' : World} {base rb : Nat} {v : Value} {l : List Ins} (h : OwnX w base v l) (ho : Only rb w w') (hr : rb < base) : OwnX w' base v l :=
  h.of_block fun k hk hlt => ho.block k hlt (by have := (h.block k hk).1; omega)
theorem OwnI.only {w w' : World} {base rb : Nat} {v : Value} {l : List Int} (h : OwnI w base v l) (ho : Only rb w w') (hr : rb < base) : OwnI w' base v l :=
  h.of_block fun k hk hlt => ho.block k hlt (by have := (h.block k hk).1; omega)
theorem OwnI.grownX {w w' : World} {base base' : Nat} {v u : Value} {l : List Int} {xs : List Ins} (h : OwnI w base v l) (ho : OwnX w base' u xs) (hg : w.grownBy w' u.ownBlock) : OwnI w' base v l :=
  h.of_block fun k hk hlt => by
    obtain ⟨C, hC⟩ := h.typed k hk
    exact hg.block k hlt (fun e => ho.ne hC (by decide) e.symm)
theorem OwnX.grownI {w w' : World} {base base' : Nat} {v u : Value} {l : List Int} {xs : List Ins} (h : OwnX w base v xs) (ho : OwnI w base' u l) (hg : w.grownBy w' u.ownBlock) : OwnX w' base v xs :=
  h.of_block fun k hk hlt => by
    obtain ⟨C, hC⟩ := h.typed k hk
    exact hg.block k hlt (fun e => ho.ne hC (by decide) e.symm)
theorem grown_below {w w' : World} {B : Nat} {row : Option Nat} (hg : w.grownBy w' row) (hB : B ≤ w.heap.size) (hr : ∀ k, row = some k → B ≤ k) : Below B w w' :=
  ⟨hg.os, hg.tape, hg.output, hg.size, fun k hk => hg.block k (by omega) (fun e => by have := hr k e.symm; omega)⟩
theorem Rr.below {w w' : World} {rr rb a B : Nat} {bs : List UInt8} (h : Rr w rr rb bs a) (hb : Below B w w') (h1 : rr < B) (h2 : rb < B) : Rr w' rr rb bs a := ⟨h.box.below hb h1, h.rd.below hb h2, h.ne⟩
def len7 : Value → Nat
  | .slice _ n _ => n
  | _ => 0

/-- What readAll leaves. -/
structure AllR (w w' : World) (rr rb : Nat) (bs : List UInt8) (e : Ending) : Prop where
  out : (∃ l lv pv, Rdg bs l bs.length ∧ e = .returned (.tuple #[lv, pv, .int .i64 0, .int .i64 0]) ∧ OwnX w' w.heap.size lv l ∧ OwnI w' w.heap.size pv (plcs l)) ∨
    (∃ l a at_ er, Rdg bs l a ∧ a < bs.length ∧ (l.length = 160 ∨ rdI bs a = none) ∧ e = .returned (.tuple #[.slice none 0 0, .slice none 0 0, .int .i64 at_, .int .i64 er]) ∧ er ≠ 0)
  only : Only rb w w'

set_option maxHeartbeats 4000000 in
set_option maxRecDepth 100000 in
theorem readAll_any {w : World} {rr rb : Nat} {bs : List UInt8} (h : Rr w rr rb bs 0) (hl : bs.length ≤ 100000) (hW : Wd w) (hrb0 : 0 < rb) :
    Calls Tryd.prog 27 #[.pointer (some ⟨rr, 0, none⟩)] w fun e w' => AllR w w' rr rb bs e := by
  have hrb := h.rd.lt
  have hrr := h.box.lt
  have hb1 : Below w.heap.size w (w.alloc (.cells #[.int .i64 0] 3)) := (Below.refl _ _).alloc (Nat.le_refl _) _
  have HP0 : Hid (OwnI (w.alloc (.cells #[.int .i64 0] 3)) w.heap.size (.slice (some ⟨w.heap.size, 0, none⟩) 1 1) [0]) := OwnV.lit w w.heap.size 3 (i64s [0]) _ 1 (Nat.le_refl _) rfl rfl (by simp [i64s, maxLen])
  have HR0 : Hid (Rr w rr rb bs 0) := h
  have HW0 : Hid (Wd w) := hW
  clear h hW
  go_enter Tryd.func27, Tryd.ntmps27
  go_wp2_with fail
  refine (byKindR_any rr _).mono ?_
  rintro e w1 ⟨rfl, hb2⟩
  have hb3 := hb1.trans (hb2.mono hb1.size)
  have hP1 := HP0.out.later hb2
  have hbt : Below w1.heap.size w1 (w1.alloc (.cells (fnsR rr) 84)) := (Below.refl _ _).alloc (Nat.le_refl _) _
  have HT : Hid (At (w1.alloc (.cells (fnsR rr) 84)) w1.heap.size (fnsR rr) 84) := At.made _ _ _
  have HP : Hid (OwnI (w1.alloc (.cells (fnsR rr) 84)) w.heap.size (.slice (some ⟨w.heap.size, 0, none⟩) 1 1) [0]) := hP1.later hbt
  have HB : Hid (Below w.heap.size w (w1.alloc (.cells (fnsR rr) 84))) := hb3.trans (hbt.mono hb3.size)
  have hs1 : w.heap.size < w1.heap.size := by have := hb2.size; simp at this; omega
  clear hb1 hb2 hb3 hP1 hbt HP0
  have HRO : Hid (∀ W a, Rr W rr rb bs a → a < bs.length → Wd W → Calls Tryd.prog 44 #[.pointer (some ⟨rr, 0, none⟩), .agg (fnsR rr)] W fun e w' => OneR W w' rr rb bs a e) := fun W a h1 h2 h3 => readOne_any h1 hl h2 h3 hrb0
  have HFC : Hid (∀ W, At W w1.heap.size (fnsR rr) 84 → ∀ o, W.cell? ⟨w1.heap.size, o, none⟩ = (fnsR rr)[o]?) := fun W h => h.cell
  unfold fnsR mfn pickR at HRO HFC ⊢
  go_wp2_with fail
  go_loopw [6, 7, 9, 11] (fun u p _ _ wr => ∃ (l : List Ins) (a : Nat), Rdg bs l a ∧ Rr wr rr rb bs a ∧ OwnX wr w.heap.size u l ∧ OwnI wr w.heap.size p (plcs l) ∧ At wr w1.heap.size (fnsR rr) 84 ∧ Only rb w wr ∧ Wd wr) (fun u _ _ _ _ => 161 - len7 u)
  case atStart => exact ⟨[], 0, Rdg.nil bs, HR0.out.later HB.out, OwnX.nil _ _, by rw [plcs_nil]; exact HP.out, HT.out, Only.of_below HB.out, HW0.out.later HB.out⟩
  case round =>
    obtain ⟨l, a, hRg, hR, hX, hI, hT, hO, hWd⟩ := hrel
    clear HT HP HB HR0 HW0
    obtain ⟨hf1, hf2, hf3⟩ := hRg.facts
    have HRg : Hid (Rdg bs l a) := hRg
    have HR : Hid (Rr wr rr rb bs a) := hR
    have HX : Hid (OwnX wr w.heap.size u6 l) := hX
    have HI : Hid (OwnI wr w.heap.size u7 (plcs l)) := hI
    have HT : Hid (At wr w1.heap.size (fnsR rr) 84) := hT
    have HO : Hid (Only rb w wr) := hO
    have HWd : Hid (Wd wr) := hWd
    have HF1 : Hid (a = szL l) := hf1
    have tc := hR.box.cell
    have fc := HFC.out wr hT
    obtain ⟨la, lc, rfl, hl1, hl2⟩ := hX.xs.shape
    unfold maxLen at hl2
    have HL : Hid (Calls Tryd.prog 42 #[.pointer (some ⟨rb, 0, none⟩)] wr fun e w' => e = .returned (.int .i64 ((bs.length : Int) - a)) ∧ ∃ n, w' = wr.drewN n) := left_any hR.rd
    have HA : Hid (∀ n, Calls Tryd.prog 43 #[.pointer (some ⟨rb, 0, none⟩)] (wr.drewN n) fun e w' => e = .returned (.int .i64 (a : Int)) ∧ w' = wr.drewN n) := fun n => at_any (hR.drewN n).rd
    clear hRg hR hX hI hT hO hWd hf1
    by_cases hal : a < bs.length
    · by_cases h160 : l.length = 160
      · have h160' : ((l.length : Int) == 160) = true := by rw [beq_iff_eq]; omega
        have HE : Hid (l.length = 160) := h160
        clear h160
        go_wp2_with (first | (go_at_call 42; refine Calls.mono HL.out ?_; rintro e w2 ⟨rfl, n, rfl⟩) | (go_at_call 43; refine Calls.mono (HA.out _) ?_; rintro e wz ⟨rfl, hz⟩; subst wz))
        refine bodyPost_ret (v := .tuple #[.slice none 0 0, .slice none 0 0, .int .i64 (a : Int), .int .i64 4]) (by simp [results, Tryd.results27, go_sem]) rfl ?_
        exact ⟨.inr ⟨l, a, _, 4, HRg.out, hal, .inl HE.out, rfl, by decide⟩, HO.out.drewN n⟩
      · have h160' : ((l.length : Int) == 160) = false := by rw [beq_eq_false_iff_ne]; omega
        go_wp2_with (first | (go_at_call 42; refine Calls.mono HL.out ?_; rintro e w2 ⟨rfl, n, rfl⟩) | (go_at_call 43; refine Calls.mono (HA.out _) ?_; rintro e wz ⟨rfl, hz⟩; subst wz))
        have hdr : Below wr.heap.size wr (wr.drewN n) := Below.drewN (Below.refl _ _) n
        refine Calls.mono (HRO.out _ a (HR.out.drewN n) hal (HWd.out.later hdr)) ?_
        rintro e w3 ⟨hyes, hno, hO3⟩
        have HO3 : Hid (Only rb w w3) := (HO.out.drewN n).trans hO3
        cases hx : rdI bs a with
        | none =>
          obtain ⟨er, rfl, her⟩ := hno hx
          have HN : Hid (rdI bs a = none) := hx
          have her' : (er != 0) = true := by rw [bne_iff_ne]; exact her
          have HER : Hid (er ≠ 0) := her
          clear hyes hno hx her hdr
          unfold iv zeroI
          go_wp2_with fail
          refine bodyPost_ret (v := .tuple #[.slice none 0 0, .slice none 0 0, .int .i64 (a : Int), .int .i64 er]) (by simp [results, Tryd.results27, go_sem]) rfl ?_
          exact ⟨.inr ⟨l, a, _, er, HRg.out, hal, .inr HN.out, rfl, HER.out⟩, HO3.out.alloc _⟩
        | some x =>
          obtain ⟨rfl, hR3⟩ := hyes x hx
          have HRn : Hid (Rdg bs (l ++ [x]) (a + 1 + opw x)) := Rdg.snoc HRg.out hal (by omega) hx
          have HSn : Hid (plcs (l ++ [x]) = plcs l ++ [((a + 1 + opw x : Nat) : Int)]) := by show _ = _; rw [plcs_snoc, HF1.out]
          have hX3 := (HX.out.later hdr).only hO3 hrb
          have hI3 := (HI.out.later hdr).only hO3 hrb
          have hT3 := (HT.out.later hdr).only7 hO3 (by omega)
          have hW3 : Wd w3 := (HWd.out.later hdr).below (hO3.below (B := rb) (Nat.le_refl _) (by have := (HR.out.drewN n).rd.lt; omega)) hrb0
          have hs3 := HO3.out.size
          generalize hax : a + 1 + opw x = ax at *
          obtain ⟨op, y, k, i, d, r⟩ := x
          have hbb : Below w3.heap.size w3 ((w3.alloc (.cells #[.int .i64 op, .int .i64 y, .int .i64 k, .int .i64 i, .int .i64 d, .bool r] 45)).alloc (.cells #[.int .i64 op, .int .i64 y, .int .i64 k, .int .i64 i, .int .i64 d, .bool r] 45)) := ((Below.refl _ _).alloc (Nat.le_refl _) _).alloc (by simp) _
          have HX4 : Hid (OwnX ((w3.alloc (.cells #[.int .i64 op, .int .i64 y, .int .i64 k, .int .i64 i, .int .i64 d, .bool r] 45)).alloc (.cells #[.int .i64 op, .int .i64 y, .int .i64 k, .int .i64 i, .int .i64 d, .bool r] 45)) w.heap.size (.slice la l.length lc) l) := hX3.later hbb
          have HI4 : Hid (OwnI ((w3.alloc (.cells #[.int .i64 op, .int .i64 y, .int .i64 k, .int .i64 i, .int .i64 d, .bool r] 45)).alloc (.cells #[.int .i64 op, .int .i64 y, .int .i64 k, .int .i64 i, .int .i64 d, .bool r] 45)) w.heap.size u7 (plcs l)) := hI3.later hbb
          have HT4 : Hid (At ((w3.alloc (.cells #[.int .i64 op, .int .i64 y, .int .i64 k, .int .i64 i, .int .i64 d, .bool r] 45)).alloc (.cells #[.int .i64 op, .int .i64 y, .int .i64 k, .int .i64 i, .int .i64 d, .bool r] 45)) w1.heap.size (fnsR rr) 84) := hT3.later hbb
          have HBB : Hid (Below w.heap.size w3 ((w3.alloc (.cells #[.int .i64 op, .int .i64 y, .int .i64 k, .int .i64 i, .int .i64 d, .bool r] 45)).alloc (.cells #[.int .i64 op, .int .i64 y, .int .i64 k, .int .i64 i, .int .i64 d, .bool r] 45))) := hbb.mono hs3
          have HLit : Hid (Xs ((w3.alloc (.cells #[.int .i64 op, .int .i64 y, .int .i64 k, .int .i64 i, .int .i64 d, .bool r] 45)).alloc (.cells #[.int .i64 op, .int .i64 y, .int .i64 k, .int .i64 i, .int .i64 d, .bool r] 45)) (.slice (some ⟨w3.heap.size + 1, 0, none⟩) 1 1) [(op, y, k, i, d, r)]) := by
            have := (OwnX.lit (w3.alloc (.cells #[.int .i64 op, .int .i64 y, .int .i64 k, .int .i64 i, .int .i64 d, .bool r] 45)) 0 [(op, y, k, i, d, r)] _ 1 (Nat.zero_le _) rfl rfl (by simp [maxLen])).xs
            simp at this
            exact this
          have HR3 : Hid (Rr w3 rr rb bs ax) := hR3
          have HW3 : Hid (Wd w3) := hW3
          clear hyes hno hx hdr hX3 hI3 hT3 hW3 hR3 hbb hO3 hax tc fc
          unfold iv
          go_wp2_with (at_builtin; go_must (refine wpList_append_xs rfl _ _ rfl w.heap.size rfl rfl HX4.out HLit.out (by simp; omega) (by simp; omega) ?_))
          intro v4 w4 hx4 hg4
          have hb4 : Below w.heap.size w3 w4 := HBB.out.trans (grown_below hg4 (by simp; omega) (fun k hk => (HX4.out.block k hk).1))
          have hI4 := HI4.out.grownX HX4.out hg4
          have hT4 := HT4.out.grownX HX4.out (by decide) hg4
          have hR4 := HR3.out.below hb4 hrr hrb
          have hW4 := HW3.out.below hb4 (by omega)
          have hs4 := hb4.size
          have HX5 : Hid (OwnX w4 w.heap.size v4 (l ++ [(op, y, k, i, d, r)])) := hx4
          have HI5 : Hid (OwnI w4 w.heap.size u7 (plcs l)) := hI4
          have HT5 : Hid (At w4 w1.heap.size (fnsR rr) 84) := hT4
          have HB5 : Hid (Below w.heap.size w3 w4) := hb4
          have HR5 : Hid (Rr w4 rr rb bs ax) := hR4
          have HW5 : Hid (Wd w4) := hW4
          have tc4 := hR4.box.cell
          have HA4 : Hid (Calls Tryd.prog 43 #[.pointer (some ⟨rb, 0, none⟩)] w4 fun e w' => e = .returned (.int .i64 (ax : Int)) ∧ w' = w4) := at_any hR4.rd
          clear hx4 hg4 hI4 hT4 hb4 hR4 hW4 HX4 HI4 HT4 HBB HLit
          go_wp2_with fail
          refine Calls.mono HA4.out ?_
          rintro e wz ⟨rfl, hz⟩
          subst wz
          have hpl : (plcs l).length ≤ 161 := by rw [plcs_length]; omega
          have HPL : Hid ((plcs l).length ≤ 161) := hpl
          clear hpl
          go_wp2_with (at_builtin; go_must (refine wpList_append_int rfl _ _ rfl w.heap.size rfl rfl (HI5.out.later ((Below.refl _ _).alloc (Nat.le_refl _) _)) (one_int w4 _ _ rfl) (by have := HPL.out; omega) (by simp; omega) ?_; intro v5 w5 hi5 hg5))
          have hba : Below w4.heap.size w4 (w4.alloc (.cells #[.int .i64 (ax : Int)] 3)) := (Below.refl _ _).alloc (Nat.le_refl _) _
          have hi4' := HI5.out.later hba
          have hg5' : (w4.alloc (.cells #[.int .i64 (ax : Int)] 3)).grownBy w5 u7.ownBlock := hg5
          have hb5 : Below w.heap.size w4 w5 := (hba.mono (by omega)).trans (grown_below hg5' (by simp; omega) (fun k hk => (hi4'.block k hk).1))
          have hX5 := (HX5.out.later hba).grownI hi4' hg5'
          have hT5 := (HT5.out.later hba).grownI hi4' (by decide) hg5'
          obtain ⟨va, vc, rfl, hv1, hv2⟩ := hX5.xs.shape
          have HM : Hid ((l ++ [(op, y, k, i, d, r)]).length = l.length + 1) := by show _ = _; simp
          go_roundw
          case rel => exact ⟨_, ax, HRn.out, HR5.out.below hb5 hrr hrb, hX5, by rw [HSn.out]; exact hi5, hT5, only_below HO3.out (HB5.out.trans hb5), HW5.out.below hb5 (by omega)⟩
          case measure => simp only [len7, HM.out]; omega
    · have hal' : a = bs.length := by omega
      have HRE : Hid (Rdg bs l bs.length) := by show Rdg _ _ _; rw [← hal']; exact HRg.out
      go_wp2_with (first | (go_at_call 42; refine Calls.mono HL.out ?_; rintro e w2 ⟨rfl, n, rfl⟩))
      refine bodyPost_ret (v := .tuple #[.slice la l.length lc, u7, .int .i64 0, .int .i64 0]) (by simp [results, Tryd.results27, go_sem]) rfl ?_
      have hdr : Below wr.heap.size wr (wr.drewN n) := Below.drewN (Below.refl _ _) n
      exact ⟨.inl ⟨l, _, _, HRE.out, rfl, HX.out.later hdr, HI.out.later hdr⟩, HO.out.drewN n⟩

end Go.Proofs.YtpgkjfjooogfmaaDoor
