
/- getLastTypes; GetLocals and GetSig. -/
import Derived.Test.YtcjoidhbhffcgaaTBlock5
namespace Go.Proofs.Ytcjoidhbhffcgaa
set_option linter.unusedVariables false
set_option linter.unusedSimpArgs false
open Go.RowKit

/-- What a call that answers types leaves. -/
def GotL (w w' : World) (rb : Nat) (x : List Ty × Nat) (e : Ending) : Prop :=
  ∃ v, e = .returned (.tuple #[v, .int .i64 (x.2 : Int)]) ∧ Ts w' v x.1 ∧ (∀ k, v.ownBlock = some k → w.heap.size ≤ k) ∧ Only rb w w'

set_option maxHeartbeats 2000000 in
set_option maxRecDepth 100000 in
theorem getLastTypes_any {w : World} {rb : Nat} {bs : List UInt8} {a : Nat} (h : RdAt w rb bs a) (n : Nat) (hn : n ≤ 100) :
    Calls Try.prog 41 #[.pointer (some ⟨rb, 0, none⟩), .int .i64 (n : Int), .func (.func 42) #[] #[]] w fun e w' => GotL w w' rb (lastTs bs (getTs bs n a)) e := by
  have hrb := h.lt
  have hmk := run_make_tys w n hn
  have hb0 : Below w.heap.size w (w.alloc (.cells (tcL (List.replicate n (0, 0, 0, false))).toArray 23)) := (Below.refl _ _).alloc (Nat.le_refl _) _
  have hT0 : TbAt (w.alloc (.cells (tcL (List.replicate n (0, 0, 0, false))).toArray 23)) w.heap.size (List.replicate n (0, 0, 0, false)) := At.made w _ _
  have hR0 := h.below hb0 hrb
  have hO0 : Only rb w (w.alloc (.cells (tcL (List.replicate n (0, 0, 0, false))).toArray 23)) := Only.of_below hb0
  have HG0 : Hid (getTs bs n a = consR [] (getTs bs n a)) := cons_nil bs n a
  clear h hb0
  generalize hZ : (tcL (List.replicate n (0, 0, 0, false))).toArray = Z at *
  clear hZ
  go_enter Try.func41, Try.ntmps41
  go_wp2
  go_loopw [16] (fun z wr => ∃ (q a' : Nat) (ts : List Ty), q ≤ n ∧ ts.length = q ∧ z = .int .i64 (q : Int) ∧ TbAt wr w.heap.size (ts ++ List.replicate (n - q) (0, 0, 0, false)) ∧ RdAt wr rb bs a' ∧ Only rb w wr ∧ Hid (getTs bs n a = consR ts (getTs bs (n - q) a'))) (fun z _ => n - (intOf z).toNat)
  case atStart => exact ⟨0, a, [], Nat.zero_le _, rfl, rfl, by simpa using hT0, hR0, hO0, HG0⟩
  case round =>
    obtain ⟨q, a', ts, hq, hlen, rfl, hT, hR, hO, hG⟩ := hrel
    clear hT0 hR0 hO0 HG0 hmk
    by_cases hqn : q < n
    · obtain ⟨m, hm⟩ : ∃ m, n - q = m + 1 := ⟨n - q - 1, by omega⟩
      have HM : Hid (n - q = m + 1) := hm
      have HL : Hid (q < (ts ++ List.replicate (n - q) ((0, 0, 0, false) : Ty)).length) := by show _ < _; simp; omega
      have hcc := tcL_get (ts ++ List.replicate (n - q) ((0, 0, 0, false) : Ty)) q HL.out
      have HC : Hid (Calls Try.prog 39 #[.pointer (some ⟨rb, 0, none⟩), .func (.func 42) #[] #[]] wr fun e w' => GotR wr w' rb bs (allowR 2 (getT bs a')) e ∧ TbAt w' w.heap.size (ts ++ List.replicate (n - q) (0, 0, 0, false))) := by
        refine Calls.mono (getType_any rule_var hR) ?_
        rintro e w' ⟨h1, h2, h3⟩
        exact ⟨⟨h1, h2, h3⟩, At.only hT h3 (by omega)⟩
      have HG1 : Hid ((allowR 2 (getT bs a')).2.2 ≠ 0 → getTs bs n a = ([], 0, (allowR 2 (getT bs a')).2.2)) := fun h => by rw [hG.out, hm]; exact cons_bad bs ts m a' h
      have HG2 : Hid ((allowR 2 (getT bs a')).2.2 = 0 → getTs bs n a = consR (ts ++ [(allowR 2 (getT bs a')).1]) (getTs bs m (allowR 2 (getT bs a')).2.1)) := fun h => by rw [hG.out, hm]; exact cons_step bs ts m a' h
      have HL2 : Hid (ts.length = q) := hlen
      clear hG hm hT hR hlen
      generalize allowR 2 (getT bs a') = g at *
      obtain ⟨⟨k, i, d, r⟩, at_, er⟩ := g
      simp only at HG1 HG2
      go_wp2_with fail
      refine Calls.mono HC.out ?_
      rintro e w2 ⟨⟨rfl, q1, q2⟩, q3⟩
      simp only at q1 ⊢
      have tc := At.cell q3
      have tm := At.melt q3
      have HS := TbAt.set q3 q HL.out (k, i, d, r)
      have HO2 : Hid (Only rb w ((((w2.setCell ⟨w.heap.size, q * 4, none⟩ (.int .i64 k)).setCell ⟨w.heap.size, q * 4 + 1, none⟩ (.int .i64 i)).setCell ⟨w.heap.size, q * 4 + 2, none⟩ (.int .i64 d)).setCell ⟨w.heap.size, q * 4 + 3, none⟩ (.bool r))) :=
        ((((hO.trans q2).setNew (Nat.le_refl _) _ _).setNew (Nat.le_refl _) _ _).setNew (Nat.le_refl _) _ _).setNew (Nat.le_refl _) _ _
      have HBw : Hid (Below w.heap.size w2 ((((w2.setCell ⟨w.heap.size, q * 4, none⟩ (.int .i64 k)).setCell ⟨w.heap.size, q * 4 + 1, none⟩ (.int .i64 i)).setCell ⟨w.heap.size, q * 4 + 2, none⟩ (.int .i64 d)).setCell ⟨w.heap.size, q * 4 + 3, none⟩ (.bool r))) :=
        ((((Below.refl w.heap.size w2).setCell (Nat.le_refl _) _).setCell (Nat.le_refl _) _).setCell (Nat.le_refl _) _).setCell (Nat.le_refl _) _
      by_cases he : er = 0
      · subst he
        have HR2 : Hid _ := (q1 rfl).below HBw.out hrb
        have HS2 : Hid (TbAt ((((w2.setCell ⟨w.heap.size, q * 4, none⟩ (.int .i64 k)).setCell ⟨w.heap.size, q * 4 + 1, none⟩ (.int .i64 i)).setCell ⟨w.heap.size, q * 4 + 2, none⟩ (.int .i64 d)).setCell ⟨w.heap.size, q * 4 + 3, none⟩ (.bool r)) w.heap.size ((ts ++ [(k, i, d, r)]) ++ List.replicate (n - (q + 1)) (0, 0, 0, false))) := by
          have e : (ts ++ List.replicate (n - q) ((0, 0, 0, false) : Ty)).set q (k, i, d, r) = (ts ++ [(k, i, d, r)]) ++ List.replicate (n - (q + 1)) (0, 0, 0, false) := by
            rw [HM.out, show n - (q + 1) = m by have := HM.out; omega, ← HL2.out]
            simp [List.replicate_succ]
          rw [← e]; exact HS
        have HG3 : Hid (getTs bs n a = consR (ts ++ [(k, i, d, r)]) (getTs bs (n - (q + 1)) at_)) := by
          show _ = _
          rw [show n - (q + 1) = m by have := HM.out; omega]
          exact HG2.out rfl
        clear q1 q2 q3 HS hO HC HG1 HG2
        go_wp2
        go_roundw
        case rel => exact ⟨q + 1, at_, ts ++ [(k, i, d, r)], by omega, by simp [HL2.out], by go_num, HS2.out, HR2.out, HO2.out, HG3⟩
        case measure => simp [intOf]; omega
      · have HG3 : Hid (lastTs bs (getTs bs n a) = ([], er)) := by show _ = _; rw [HG1.out he]; unfold lastTs; rw [if_pos he]
        have he2 : ((er : Int) != 0) = true := by rw [bne_iff_ne]; omega
        clear he q1 q2 q3 HS hO HC HG1 HG2
        go_wp2
        go_ret2
        exact ⟨.slice none 0 0, by rw [HG3.out]; rfl, by rw [HG3.out]; exact Ts.nil _, fun k hk => by simp [Value.ownBlock] at hk, HO2.out⟩
    · have hqq : q = n := by omega
      subst hqq
      rw [Nat.sub_self, List.replicate_zero, List.append_nil] at hT
      have HG1 : Hid (getTs bs q a = (ts, a', 0)) := by show _ = _; rw [hG.out, Nat.sub_self, cons_end]
      have HTs : Hid (∀ m, Ts (wr.drewN m) (.slice (some ⟨w.heap.size, 0, none⟩) q q) ts) := fun m => by
        have := (TbAt.ts hT (by rw [hlen]; unfold maxLen; omega)).drewN m
        rw [hlen] at this
        exact this
      by_cases hl : a' < bs.length
      · have HG3 : Hid (lastTs bs (getTs bs q a) = ([], 2)) := by show _ = _; rw [HG1.out]; simp [lastTs, hl]
        have HD : Hid (Calls Try.prog 53 #[.pointer (some ⟨rb, 0, none⟩)] wr fun e w' => e = .returned (.int .i64 2) ∧ ∃ n, w' = wr.drewN n) := by
          have := done_any hR
          rw [if_pos hl] at this
          exact this
        clear hR hT hG HG1
        go_wp2_with fail
        refine Calls.mono HD.out ?_
        rintro e w2 ⟨rfl, m, rfl⟩
        go_wp2
        go_ret2
        exact ⟨.slice none 0 0, by rw [HG3.out]; rfl, by rw [HG3.out]; exact Ts.nil _, fun k hk => by simp [Value.ownBlock] at hk, hO.drewN m⟩
      · have HG3 : Hid (lastTs bs (getTs bs q a) = (ts, 0)) := by show _ = _; rw [HG1.out]; simp [lastTs, hl]
        have HD : Hid (Calls Try.prog 53 #[.pointer (some ⟨rb, 0, none⟩)] wr fun e w' => e = .returned (.int .i64 0) ∧ ∃ n, w' = wr.drewN n) := by
          have := done_any hR
          rw [if_neg hl] at this
          exact this
        clear hR hT hG HG1
        go_wp2_with fail
        refine Calls.mono HD.out ?_
        rintro e w2 ⟨rfl, m, rfl⟩
        go_wp2
        go_ret2
        exact ⟨_, by rw [HG3.out]; rfl, by rw [HG3.out]; exact HTs.out m, fun k hk => by simp [Value.ownBlock] at hk; omega, hO.drewN m⟩

end Go.Proofs.Ytcjoidhbhffcgaa
