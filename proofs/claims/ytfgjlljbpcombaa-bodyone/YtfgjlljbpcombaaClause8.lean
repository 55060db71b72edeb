
/- The reader of bodies: code, clause. -/
import Derived.Test.YtfgjlljbpcombaaRead8
namespace Go.Proofs.Ytfgjlljbpcombaa
set_option linter.unusedVariables false
set_option linter.unusedSimpArgs false
open Go.RowKit
attribute [local go_sem ↓] Go.wp_at_zero Go.wp_at_succ

theorem Bs.onl {w w' : World} {v : Value} {bs : List UInt8} {rr rb : Nat} (h : Bs w v bs) (ho : Onl rr rb w w') (h1 : bs ≠ [] → v.ownBlock ≠ some rr) (h2 : bs ≠ [] → v.ownBlock ≠ some rb) : Bs w' v bs := by
  by_cases hb : bs = []
  · subst hb
    obtain ⟨a, cap, rfl, h1, h2, h3⟩ := h
    exact ⟨a, cap, rfl, h1, h2, fun hne => absurd rfl hne⟩
  · exact h.of_block ho.size fun k hv hlt => ho.block k hlt (fun e => h1 hb (e ▸ hv)) (fun e => h2 hb (e ▸ hv))

/-- What code leaves. -/
structure GotC (w w' : World) (rr rb : Nat) (bs : List UInt8) (s : St) (n : Nat) (e : Ending) : Prop where
  val : ∃ v, e = .returned v ∧ Bs w' v (coL bs s n) ∧ ∀ k, v.ownBlock = some k → w.heap.size ≤ k
  rx : Rx w' rr rb bs (coS bs s n)
  onl : Onl rr rb w w'

set_option maxHeartbeats 1000000 in
theorem code8_any {w : World} {rr rb : Nat} {bs : List UInt8} {s : St} (h : Rx w rr rb bs s) (n : Nat) (hn : n < 4294967296) :
    Calls Try.prog 38 #[.pointer (some ⟨rr, 0, none⟩), .int .i64 (n : Int)] w fun e w' => GotC w w' rr rb bs s n e := by
  obtain ⟨a, er⟩ := s
  have hne : rr ≠ rb := by have := h.lt; omega
  have HW : Hid (Calls Try.prog 39 #[.pointer (some ⟨rr, 0, none⟩), .bool (lenB (n : Int))] w fun e w' => e = .returned (.tuple #[]) ∧ Rx w' rr rb bs (waS (a, er) (lenB (n : Int))) ∧ Onl rr rb w w') := want_any h _
  clear h
  go_enter Try.func38, Try.ntmps38
  go_wp2_with fail
  refine (isLength_any _ _).mono ?_
  rintro e wz ⟨rfl, hz⟩
  subst wz
  go_wp2_with fail
  refine Calls.mono HW.out ?_
  rintro e w1 ⟨rfl, h1, h2⟩
  clear HW
  have hs2 := h2.size
  by_cases he : er = 0
  · subst he
    by_cases hl : lenB (n : Int) = true
    · have hws : waS (a, 0) (lenB (n : Int)) = (a, 0) := by simp [waS, hl]
      rw [hws] at h1
      have tc := h1.box.cell
      by_cases hs : a + n ≤ bs.length
      · have HV : Hid (coL bs (a, 0) n = seg bs a n ∧ coS bs (a, 0) n = (a + n, 0)) := ⟨by simp [coL, hl, hs], by simp [coS, hl, hs]⟩
        have HT : Hid (Calls Try.prog 45 #[.pointer (some ⟨rb, 0, none⟩), .int .i64 (n : Int)] w1 fun e w' => ∃ v, e = .returned (.tuple #[v, .int .i64 0]) ∧ Bs w' v (seg bs a n) ∧ Rx w' rr rb bs (a + n, 0) ∧ Only rb w1 w' ∧ ∀ k, v.ownBlock = some k → w.heap.size ≤ k ∧ k ≠ rr) := by
          refine (take_new h1.rd n hs).mono ?_
          rintro e w' ⟨v, rfl, g1, g2, g3, g4⟩
          have hlt1 := h1.box.lt
          exact ⟨v, rfl, g1, ⟨h1.box.only8 g3 hne, g2, h1.lt⟩, g3, fun k hk => by have := g4 k hk; exact ⟨by omega, by omega⟩⟩
        have HO : Hid (Onl rr rb w w1) := h2
        clear h1 h2 hws hl hs
        go_wp2_with fail
        refine Calls.mono HT.out ?_
        rintro e w2 ⟨v, rfl, g1, g2, g3, g4⟩
        have tc2 := g2.box.cell
        have tm2 := g2.box.melt
        have HX : Hid (Rx (w2.setCell ⟨rr, 1, none⟩ (.int .i64 0)) rr rb bs (a + n, 0)) := g2.set 0
        have HBs : Hid (Bs (w2.setCell ⟨rr, 1, none⟩ (.int .i64 0)) v (seg bs a n)) := g1.of_block (by simp [World.setCell]) fun k hk _ => Below.heap_setCell _ _ _ _ (g4 k hk).2
        have HOO : Hid (Onl rr rb w (w2.setCell ⟨rr, 1, none⟩ (.int .i64 0))) := (HO.out.trans g3.onl).setCell _ _
        have HFr : Hid (∀ k, v.ownBlock = some k → w.heap.size ≤ k) := fun k hk => (g4 k hk).1
        clear g1 g2 g3 g4 tc HT
        go_wp2
        go_ret
        exact ⟨⟨_, rfl, by rw [HV.out.1]; exact HBs.out, HFr.out⟩, by rw [HV.out.2]; exact HX.out, HOO.out⟩
      · have HV : Hid (coL bs (a, 0) n = [] ∧ coS bs (a, 0) n = (a, 1)) := ⟨by simp [coL, hl, hs], by simp [coS, hl, hs]⟩
        have HT : Hid (Calls Try.prog 45 #[.pointer (some ⟨rb, 0, none⟩), .int .i64 (n : Int)] w1 fun e w' => e = .returned (.tuple #[.slice none 0 0, .int .i64 1]) ∧ Rx w' rr rb bs (a, 0) ∧ Only rb w1 w') := by
          have hle := h1.rd.le
          refine (take_no h1.rd n 1 (by unfold skipE; rw [if_neg (by omega), if_pos (by simp only at hle; omega)]) (by decide)).mono ?_
          rintro e w' ⟨rfl, g1, g2⟩
          exact ⟨rfl, ⟨h1.box.only8 g2 hne, g1, h1.lt⟩, g2⟩
        have HO : Hid (Onl rr rb w w1) := h2
        clear h1 h2 hws hl hs
        go_wp2_with fail
        refine Calls.mono HT.out ?_
        rintro e w2 ⟨rfl, g2, g3⟩
        have tc2 := g2.box.cell
        have tm2 := g2.box.melt
        have HX : Hid (Rx (w2.setCell ⟨rr, 1, none⟩ (.int .i64 1)) rr rb bs (a, 1)) := g2.set 1
        have HOO : Hid (Onl rr rb w (w2.setCell ⟨rr, 1, none⟩ (.int .i64 1))) := (HO.out.trans g3.onl).setCell _ _
        clear g2 g3 tc HT
        go_wp2
        go_ret
        exact ⟨⟨_, rfl, by rw [HV.out.1]; exact Bs.nil _, by simp [Value.ownBlock]⟩, by rw [HV.out.2]; exact HX.out, HOO.out⟩
    · have hws : waS (a, 0) (lenB (n : Int)) = (a, 2) := by simp [waS, hl]
      rw [hws] at h1
      have tc := h1.box.cell
      have HV : Hid (coL bs (a, 0) n = [] ∧ coS bs (a, 0) n = (a, 2)) := ⟨by simp [coL, hl], by simp [coS, hl]⟩
      have HX : Hid (Rx w1 rr rb bs (a, 2)) := h1
      clear h1 hws hl
      go_wp2
      go_ret
      exact ⟨⟨_, rfl, by rw [HV.out.1]; exact Bs.nil _, by simp [Value.ownBlock]⟩, by rw [HV.out.2]; exact HX.out, h2⟩
  · have hws : waS (a, er) (lenB (n : Int)) = (a, er) := by simp [waS, he]
    rw [hws] at h1
    have tc := h1.box.cell
    have HV : Hid (coL bs (a, er) n = [] ∧ coS bs (a, er) n = (a, er)) := ⟨by simp [coL, he], by simp [coS, he]⟩
    have HX : Hid (Rx w1 rr rb bs (a, er)) := h1
    have he' : (er != 0) = true := by simpa using he
    clear h1 hws
    go_wp2
    go_ret
    exact ⟨⟨_, rfl, by rw [HV.out.1]; exact Bs.nil _, by simp [Value.ownBlock]⟩, by rw [HV.out.2]; exact HX.out, h2⟩

/-- Six numbers of which so many were read. -/
def sixA (f : Nat → Int) (k : Nat) : Array Value :=
  #[.int .i64 (if 0 < k then f 0 else 0), .int .i64 (if 1 < k then f 1 else 0), .int .i64 (if 2 < k then f 2 else 0), .int .i64 (if 3 < k then f 3 else 0), .int .i64 (if 4 < k then f 4 else 0), .int .i64 (if 5 < k then f 5 else 0)]
theorem sixA_set (f : Nat → Int) (k : Nat) (hk : k < 6) : (sixA f k).setIfInBounds k (.int .i64 (f k)) = sixA f (k + 1) := by
  rcases (show k = 0 ∨ k = 1 ∨ k = 2 ∨ k = 3 ∨ k = 4 ∨ k = 5 by omega) with rfl | rfl | rfl | rfl | rfl | rfl <;> simp [sixA]
theorem sixA_get (f : Nat → Int) (q k : Nat) (hk : k < 6) : ∃ x, (sixA f q)[k]? = some (.int .i64 x) := by
  rcases (show k = 0 ∨ k = 1 ∨ k = 2 ∨ k = 3 ∨ k = 4 ∨ k = 5 by omega) with rfl | rfl | rfl | rfl | rfl | rfl <;> exact ⟨_, rfl⟩

set_option maxHeartbeats 1000000 in
theorem clause_any {w : World} {rr rb : Nat} {bs : List UInt8} {s : St} (h : Rx w rr rb bs s) :
    Calls Try.prog 46 #[.pointer (some ⟨rr, 0, none⟩)] w fun e w' => e = .returned (.agg #[.int .i64 (clV bs s 0), .int .i64 (clV bs s 1), .int .i64 (clV bs s 2), .int .i64 (clV bs s 3), .int .i64 (clV bs s 4), .int .i64 (clV bs s 5)]) ∧ Rx w' rr rb bs (clS bs s 6) ∧ Onl rr rb w w' := by
  have hlt := h.box.lt
  have hlr := h.lt
  obtain ⟨wa, hwa⟩ : ∃ W, W = (w.alloc (.cells #[.int .i64 0, .int .i64 0, .int .i64 0, .int .i64 0, .int .i64 0, .int .i64 0] 52)).alloc (.cells #[.int .i64 0, .int .i64 0, .int .i64 0, .int .i64 0, .int .i64 0, .int .i64 0] 66) := ⟨_, rfl⟩
  have hb0 : Below w.heap.size w wa := by rw [hwa]; exact ((Below.refl _ _).alloc (Nat.le_refl _) _).alloc (by simp) _
  have hA0 : At wa w.heap.size #[.int .i64 0, .int .i64 0, .int .i64 0, .int .i64 0, .int .i64 0, .int .i64 0] 52 := by rw [hwa]; exact (At.made _ _ _).next _
  have hA1 : At wa (w.heap.size + 1) (sixA (clV bs s) 0) 66 := by
    rw [hwa]
    have := At.made (w.alloc (.cells #[.int .i64 0, .int .i64 0, .int .i64 0, .int .i64 0, .int .i64 0, .int .i64 0] 52)) #[.int .i64 0, .int .i64 0, .int .i64 0, .int .i64 0, .int .i64 0, .int .i64 0] 66
    simpa [sixA] using this
  have hR0 : Rx wa rr rb bs s := h.later hb0
  have HR0 : Hid (Rx wa rr rb bs s) := hR0
  have HA0 : Hid (At wa w.heap.size #[.int .i64 0, .int .i64 0, .int .i64 0, .int .i64 0, .int .i64 0, .int .i64 0] 52) := hA0
  have HA1 : Hid (At wa (w.heap.size + 1) (sixA (clV bs s) 0) 66) := hA1
  have HB0 : Hid (Below w.heap.size w wa) := hb0
  clear h hb0 hA0 hA1 hR0
  have hne : w.heap.size ≠ rr ∧ w.heap.size ≠ rb ∧ w.heap.size + 1 ≠ rr ∧ w.heap.size + 1 ≠ rb := by omega
  have HNE : Hid (w.heap.size ≠ rr ∧ w.heap.size ≠ rb ∧ w.heap.size + 1 ≠ rr ∧ w.heap.size + 1 ≠ rb) := hne
  have HRR : Hid (rr < w.heap.size) := hlt
  clear hne hlt hlr
  go_enter Try.func46, Try.ntmps46
  go_wp2
  rw [← hwa]
  clear hwa
  go_loopw [4, 5] (fun _ z wr => ∃ q : Nat, q ≤ 6 ∧ z = .int .i64 (q : Int) ∧ Rx wr rr rb bs (clS bs s q) ∧ At wr w.heap.size #[.int .i64 0, .int .i64 0, .int .i64 0, .int .i64 0, .int .i64 0, .int .i64 0] 52 ∧ At wr (w.heap.size + 1) (sixA (clV bs s) q) 66 ∧ Onl rr rb w wr) (fun _ z _ => 6 - (intOf z).toNat)
  case atStart => exact ⟨0, Nat.zero_le _, rfl, HR0.out, HA0.out, HA1.out, Onl.of_below HB0.out⟩
  case round =>
    obtain ⟨q, hq, rfl, hR, hA, hB, hO⟩ := hrel
    have HO : Hid (Onl rr rb w wr) := hO
    clear hO HR0 HA0 HA1 HB0
    by_cases hqn : q < 6
    · have HN : Hid (Calls Try.prog 37 #[.pointer (some ⟨rr, 0, none⟩), .int .i64 2] wr fun e w' => e = .returned (.int .i64 (clV bs s q)) ∧ Rx w' rr rb bs (clS bs s (q + 1)) ∧ Onl rr rb wr w' ∧ At w' w.heap.size #[.int .i64 0, .int .i64 0, .int .i64 0, .int .i64 0, .int .i64 0, .int .i64 0] 52 ∧ At w' (w.heap.size + 1) (sixA (clV bs s) q) 66) := by
        obtain ⟨n1, n2, n3, n4⟩ := HNE.out
        refine (number8_any hR 2 (by omega)).mono ?_
        rintro e w' ⟨rfl, g1, g2⟩
        exact ⟨rfl, g1, g2, hA.onl g2 n1 n2, hB.onl g2 n3 n4⟩
      clear hR hA hB
      go_wp2_with fail
      refine Calls.mono HN.out ?_
      rintro e w1 ⟨rfl, h1, h2, h3, h4⟩
      clear HN
      obtain ⟨y, hy⟩ := sixA_get (clV bs s) q q hqn
      have hcq : w1.cell? ⟨w.heap.size + 1, q, none⟩ = some (.int .i64 y) := by rw [h4.cell, hy]
      have hmq : w1.frozen? ⟨w.heap.size + 1, q, none⟩ = false := h4.melt q
      have hb1 : Below (w.heap.size + 1) w1 (w1.setCell ⟨w.heap.size + 1, q, none⟩ (.int .i64 (clV bs s q))) := (Below.refl (w.heap.size + 1) w1).setCell (by simp) _
      have H4 : Hid (At (w1.setCell ⟨w.heap.size + 1, q, none⟩ (.int .i64 (clV bs s q))) (w.heap.size + 1) (sixA (clV bs s) (q + 1)) 66) := by
        have := h4.set q (.int .i64 (clV bs s q))
        rw [sixA_set _ _ hqn] at this
        exact this
      have H3 : Hid (At (w1.setCell ⟨w.heap.size + 1, q, none⟩ (.int .i64 (clV bs s q))) w.heap.size #[.int .i64 0, .int .i64 0, .int .i64 0, .int .i64 0, .int .i64 0, .int .i64 0] 52) := h3.other (by omega) _
      have H1 : Hid (Rx (w1.setCell ⟨w.heap.size + 1, q, none⟩ (.int .i64 (clV bs s q))) rr rb bs (clS bs s (q + 1))) := by
        have hr := HRR.out
        exact h1.below hb1 (by omega)
      have H2 : Hid (Onl rr rb w (w1.setCell ⟨w.heap.size + 1, q, none⟩ (.int .i64 (clV bs s q)))) := by
        have h5 := HO.out.trans h2
        exact ⟨h5.os, h5.tape, h5.output, by simpa [World.setCell] using h5.size, fun k hk g1 g2 => by rw [Below.heap_setCell _ _ _ _ (show k ≠ w.heap.size + 1 by omega)]; exact h5.block k hk g1 g2⟩
      clear h1 h2 h3 h4 hb1
      generalize clV bs s q = v at *
      go_wp2
      go_roundw
      case rel => exact ⟨q + 1, by omega, by go_num, H1.out, H3.out, H4.out, H2.out⟩
      case measure => simp [intOf]; omega
    · have hqq : q = 6 := by omega
      subst hqq
      have hB' : At wr (w.heap.size + 1) #[.int .i64 (clV bs s 0), .int .i64 (clV bs s 1), .int .i64 (clV bs s 2), .int .i64 (clV bs s 3), .int .i64 (clV bs s 4), .int .i64 (clV bs s 5)] 66 := hB
      have tc := hB'.cell
      have HC : Hid (Calls Try.prog 49 #[.agg #[.int .i64 (clV bs s 0), .int .i64 (clV bs s 1), .int .i64 (clV bs s 2), .int .i64 (clV bs s 3), .int .i64 (clV bs s 4), .int .i64 (clV bs s 5)]] wr fun e w' => e = .returned (.agg #[.int .i64 (clV bs s 0), .int .i64 (clV bs s 1), .int .i64 (clV bs s 2), .int .i64 (clV bs s 3), .int .i64 (clV bs s 4), .int .i64 (clV bs s 5)]) ∧ Rx w' rr rb bs (clS bs s 6) ∧ At w' w.heap.size #[.int .i64 0, .int .i64 0, .int .i64 0, .int .i64 0, .int .i64 0, .int .i64 0] 52 ∧ Onl rr rb w w') := by
        refine (rawOf_any _ _ _ _ _ _ wr).mono ?_
        rintro e w' ⟨rfl, g⟩
        exact ⟨rfl, hR.later g, hA.later g, HO.out.trans (Onl.of_below g)⟩
      clear hR hA hB hB'
      generalize hf0 : clV bs s 0 = f0 at tc HC
      have HQ0 : Hid (clV bs s 0 = f0) := hf0
      clear hf0
      generalize hf1 : clV bs s 1 = f1 at tc HC
      have HQ1 : Hid (clV bs s 1 = f1) := hf1
      clear hf1
      generalize hf2 : clV bs s 2 = f2 at tc HC
      have HQ2 : Hid (clV bs s 2 = f2) := hf2
      clear hf2
      generalize hf3 : clV bs s 3 = f3 at tc HC
      have HQ3 : Hid (clV bs s 3 = f3) := hf3
      clear hf3
      generalize hf4 : clV bs s 4 = f4 at tc HC
      have HQ4 : Hid (clV bs s 4 = f4) := hf4
      clear hf4
      generalize hf5 : clV bs s 5 = f5 at tc HC
      have HQ5 : Hid (clV bs s 5 = f5) := hf5
      clear hf5
      go_wp2_with fail
      refine Calls.mono HC.out ?_
      rintro e w2 ⟨rfl, g1, g2, g3⟩
      clear HC tc
      have tc2 := g2.cell
      have tm2 := g2.melt
      have hr := HRR.out
      have hnn := HNE.out
      have hbb : Below w.heap.size w2 ((((((w2.setCell ⟨w.heap.size, 0, none⟩ (.int .i64 f0)).setCell ⟨w.heap.size, 1, none⟩ (.int .i64 f1)).setCell ⟨w.heap.size, 2, none⟩ (.int .i64 f2)).setCell ⟨w.heap.size, 3, none⟩ (.int .i64 f3)).setCell ⟨w.heap.size, 4, none⟩ (.int .i64 f4)).setCell ⟨w.heap.size, 5, none⟩ (.int .i64 f5)) := below_set6 (Below.refl _ _) (Nat.le_refl _) _ _ _ _ _ _
      have HF := (g2.set6 (.int .i64 f0) (.int .i64 f1) (.int .i64 f2) (.int .i64 f3) (.int .i64 f4) (.int .i64 f5)).cell
      have HX : Hid (Rx ((((((w2.setCell ⟨w.heap.size, 0, none⟩ (.int .i64 f0)).setCell ⟨w.heap.size, 1, none⟩ (.int .i64 f1)).setCell ⟨w.heap.size, 2, none⟩ (.int .i64 f2)).setCell ⟨w.heap.size, 3, none⟩ (.int .i64 f3)).setCell ⟨w.heap.size, 4, none⟩ (.int .i64 f4)).setCell ⟨w.heap.size, 5, none⟩ (.int .i64 f5)) rr rb bs (clS bs s 6)) := g1.below hbb hr
      have HON : Hid (Onl rr rb w ((((((w2.setCell ⟨w.heap.size, 0, none⟩ (.int .i64 f0)).setCell ⟨w.heap.size, 1, none⟩ (.int .i64 f1)).setCell ⟨w.heap.size, 2, none⟩ (.int .i64 f2)).setCell ⟨w.heap.size, 3, none⟩ (.int .i64 f3)).setCell ⟨w.heap.size, 4, none⟩ (.int .i64 f4)).setCell ⟨w.heap.size, 5, none⟩ (.int .i64 f5))) :=
        ⟨hbb.os.trans g3.os, hbb.tape.trans g3.tape, hbb.output.trans g3.output, Nat.le_trans g3.size hbb.size, fun k hk q1 q2 => (hbb.block k hk).trans (g3.block k hk q1 q2)⟩
      clear g1 g2 g3 hbb hr hnn
      go_wp2
      exact bodyPost_ret (v := .agg #[.int .i64 f0, .int .i64 f1, .int .i64 f2, .int .i64 f3, .int .i64 f4, .int .i64 f5]) (by simp [results, Try.results46, go_sem, HF]) rfl ⟨by rw [HQ0.out, HQ1.out, HQ2.out, HQ3.out, HQ4.out, HQ5.out], HX.out, HON.out⟩

end Go.Proofs.Ytfgjlljbpcombaa
