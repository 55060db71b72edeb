/- Texts joined: TList5. -/
import Derived.Test.YtclmafoelibihaaGreatJ14
/- Slices of types in memory; putTypes, putCount. -/
namespace Go.Proofs.YtclmafoelibihaaGreat
set_option linter.unusedVariables false
set_option linter.unusedSimpArgs false
open Go.RowKit

/-- The value is a slice of just these types in that world. -/
def Ts (w : World) (v : Value) (ts : List Ty) : Prop :=
  ∃ a cap, v = .slice a ts.length cap ∧ ts.length ≤ cap ∧ cap ≤ maxLen ∧
    (ts ≠ [] → ∃ b off, a = some ⟨b, off, none⟩ ∧ b < w.heap.size ∧ ∀ i (h : i < ts.length), w.cell? ⟨b, off + i * 4, none⟩ = some (.int .i64 ts[i].1) ∧ w.cell? ⟨b, off + i * 4 + 1, none⟩ = some (.int .i64 ts[i].2.1) ∧
      w.cell? ⟨b, off + i * 4 + 2, none⟩ = some (.int .i64 ts[i].2.2.1) ∧ w.cell? ⟨b, off + i * 4 + 3, none⟩ = some (.bool ts[i].2.2.2))

theorem Ts.nil (w : World) : Ts w (.slice none 0 0) [] := ⟨none, 0, rfl, Nat.le_refl _, Nat.zero_le _, fun h => absurd rfl h⟩
theorem Ts.len {w : World} {v : Value} {ts : List Ty} (h : Ts w v ts) : ts.length ≤ maxLen := by
  obtain ⟨a, cap, _, h1, h2, _⟩ := h; omega
theorem Ts.of_block {w w' : World} {v : Value} {ts : List Ty} (h : Ts w v ts) (hs : w.heap.size ≤ w'.heap.size) (hk : ∀ k, v.ownBlock = some k → k < w.heap.size → w'.heap[k]? = w.heap[k]?) : Ts w' v ts := by
  obtain ⟨a, cap, rfl, h1, h2, h3⟩ := h
  refine ⟨a, cap, rfl, h1, h2, fun hne => ?_⟩
  obtain ⟨b, off, rfl, hb, hc⟩ := h3 hne
  refine ⟨b, off, rfl, by omega, fun i hi => ?_⟩
  have e : ∀ o, w'.cell? ⟨b, o, none⟩ = w.cell? ⟨b, o, none⟩ := fun o => World.cell?_of_block (hk b rfl hb)
  rw [e, e, e, e]
  exact hc i hi
theorem Ts.below {w w' : World} {v : Value} {ts : List Ty} {B : Nat} (h : Ts w v ts) (hb : Below B w w') (hk : ∀ k, v.ownBlock = some k → k < B) : Ts w' v ts :=
  h.of_block hb.size fun k hv _ => hb.block k (hk k hv)
theorem Ts.later {w w' : World} {v : Value} {ts : List Ty} (h : Ts w v ts) (hb : Below w.heap.size w w') : Ts w' v ts :=
  h.of_block hb.size fun k _ hk => hb.block k hk
theorem Ts.lt {w : World} {v : Value} {ts : List Ty} (h : Ts w v ts) (hne : ts ≠ []) : ∀ g, v.ownBlock = some g → g < w.heap.size := by
  obtain ⟨a, cap, rfl, _, _, h3⟩ := h
  obtain ⟨b, off, rfl, hb, _⟩ := h3 hne
  intro g hg
  simp [Value.ownBlock] at hg
  omega
theorem Ts.drewN {w : World} {v : Value} {ts : List Ty} (h : Ts w v ts) (n : Nat) : Ts (w.drewN n) v ts :=
  h.of_block (Nat.le_refl _) fun _ _ _ => rfl

/-- The bytes of types, one behind the other. -/
def encs (ts : List Ty) : List UInt8 := ts.flatMap encT
theorem encs_snoc (ts : List Ty) (t : Ty) : encs (ts ++ [t]) = encs ts ++ encT t := by simp [encs]
theorem encs_cons (t : Ty) (ts : List Ty) : encs (t :: ts) = encT t ++ encs ts := by simp [encs]

theorem enc_len (t : Ty) (h : plainT t = true) : (encT t).length ≤ 10 := by
  obtain ⟨k, i, d, r⟩ := t
  have h' : plainB k i d r = true := h
  obtain ⟨h1, h2, h3, h4⟩ := plain_facts h'
  have hn : (numL k i).length ≤ 4 := by
    have q : ∀ n, n ≤ 536870911 → (pkL n).length ≤ 4 := fun n hn => by
      have := pkL_length n hn
      unfold sizeI at this
      repeat' split at this
      all_goals omega
    unfold numL
    repeat' split
    · exact q _ (by omega)
    · exact q _ (by omega)
    · simp
  have hh : (headL r).length ≤ 1 := by unfold headL; split <;> simp
  simp only [encT, encB, List.length_append, List.length_replicate, List.length_cons]
  omega

theorem encs_len (ts : List Ty) (p : Nat) (hp : ∀ t, mayT p t = true → plainT t = true) (h : ts.all (mayT p) = true) : (encs ts).length ≤ 10 * ts.length := by
  induction ts with
  | nil => simp [encs]
  | cons t r ih =>
    simp only [List.all_cons, Bool.and_eq_true] at h
    have h1 := enc_len t (hp t h.1)
    have h2 := ih h.2
    rw [encs_cons, List.length_append, List.length_cons]
    omega

theorem Rule.plainT {f : FuncId} {p : Nat} (h : Rule f p) (t : Ty) (ht : mayT p t = true) : plainT t = true := h.plain t.1 t.2.1 t.2.2.1 t.2.2.2 ht

set_option maxHeartbeats 1000000 in
set_option maxRecDepth 100000 in
theorem putTypes_some {f : FuncId} {p : Nat} (hF : Rule f p) {w : World} {base b off cap : Nat} {v : Value} {xs : List UInt8} (hv : Own w base 5 v xs) (hbase : base ≤ w.heap.size) (hx : xs.length ≤ 1000) (ts : List Ty) (hlen : ts.length ≤ 100) (hb : b < base)
    (hcell : ∀ i (h : i < ts.length), w.cell? ⟨b, off + i * 4, none⟩ = some (.int .i64 ts[i].1) ∧ w.cell? ⟨b, off + i * 4 + 1, none⟩ = some (.int .i64 ts[i].2.1) ∧
      w.cell? ⟨b, off + i * 4 + 2, none⟩ = some (.int .i64 ts[i].2.2.1) ∧ w.cell? ⟨b, off + i * 4 + 3, none⟩ = some (.bool ts[i].2.2.2)) :
    Calls Tryz.prog 150 #[v, .slice (some ⟨b, off, none⟩) ts.length cap, .func (.func f) #[] #[]] w fun e w' =>
      (ts.all (mayT p) = true → ∃ v', e = .returned (.tuple #[v', .int .i64 0]) ∧ Own w' base 5 v' (xs ++ encs ts)) ∧ (ts.all (mayT p) = false → e = .returned (.tuple #[.slice none 0 0, .int .i64 17])) ∧ Below base w w' ∧ Keeps w w' := by
  have HC : Hid (∀ i (h : i < ts.length), w.cell? ⟨b, off + i * 4, none⟩ = some (.int .i64 ts[i].1) ∧ w.cell? ⟨b, off + i * 4 + 1, none⟩ = some (.int .i64 ts[i].2.1) ∧
      w.cell? ⟨b, off + i * 4 + 2, none⟩ = some (.int .i64 ts[i].2.2.1) ∧ w.cell? ⟨b, off + i * 4 + 3, none⟩ = some (.bool ts[i].2.2.2)) := hcell
  clear hcell
  have HPl : Hid (∀ t, mayT p t = true → plainT t = true) := hF.plainT
  go_enter Tryz.func150, Tryz.ntmps150
  go_wp2
  go_loopw [0, 13] (fun u z wr => ∃ q : Nat, q ≤ ts.length ∧ z = .int .i64 (q : Int) ∧ Own wr base 5 u (xs ++ encs (ts.take q)) ∧ Below base w wr ∧ Keeps w wr ∧ (ts.take q).all (mayT p) = true) (fun _ z _ => ts.length - (intOf z).toNat)
  case atStart => exact ⟨0, Nat.zero_le _, rfl, by simpa [encs] using hv, Below.refl _ _, Keeps.refl _, by simp⟩
  case round =>
    obtain ⟨q, hq, rfl, ho, hB, hK, hall⟩ := hrel
    have hsw := hB.size
    have HO : Hid (Own wr base 5 u0 (xs ++ encs (ts.take q))) := ho
    clear hv ho
    by_cases hql : q < ts.length
    · obtain ⟨c0, c1, c2, c3⟩ := HC.out q hql
      have e : ∀ o, wr.cell? ⟨b, o, none⟩ = w.cell? ⟨b, o, none⟩ := fun o => hB.cell (p := ⟨b, o, none⟩) hb
      rw [← e] at c0 c1 c2 c3
      clear e
      have HT : Hid (ts.take (q + 1) = ts.take q ++ [ts[q]]) := by show _ = _; rw [List.take_succ_eq_append_getElem hql]
      have HS : Hid (ts.all (mayT p) = true → mayT p ts[q] = true) := fun h => List.all_eq_true.1 h _ (List.getElem_mem hql)
      generalize ts[q] = t at *
      obtain ⟨k, i, d, r⟩ := t
      simp only at c0 c1 c2 c3
      have hle := encs_len (ts.take q) p HPl.out hall
      have hle2 : (xs ++ encs (ts.take q)).length ≤ 1000000 := by simp at hle ⊢; omega
      have HLE : Hid ((xs ++ encs (ts.take q)).length ≤ 1000000) := hle2
      clear hle hle2
      have hbx : Below wr.heap.size wr (wr.alloc (.cells #[.int .i64 k, .int .i64 i, .int .i64 d, .bool r] 44)) := (Below.refl _ _).alloc (Nat.le_refl _) _
      by_cases hm : mayB p k i d r = true
      · have HP : Hid (Calls Tryz.prog 146 #[u0, .agg #[.int .i64 k, .int .i64 i, .int .i64 d, .bool r], .func (.func f) #[] #[]] (wr.alloc (.cells #[.int .i64 k, .int .i64 i, .int .i64 d, .bool r] 44)) fun e w' => ∃ v', e = .returned (.tuple #[v', .int .i64 0]) ∧ Own w' base 5 v' (xs ++ encs (ts.take q) ++ encB k i d r) ∧ Below base wr w' ∧ Keeps wr w') := by
          refine (putType_yes hF (HO.out.later hbx) (by simp; omega) HLE.out k i d r hm).mono ?_
          rintro e w' ⟨v', rfl, h1, h2, h3⟩
          exact ⟨v', rfl, h1, (hbx.mono (by omega)).trans h2, (Keeps.of_below hbx).trans h3⟩
        have HM : Hid (mayT p (k, i, d, r) = true) := hm
        have HA : Hid ((ts.take q).all (mayT p) = true) := hall
        clear hall hbx hm
        go_wp2_with fail
        refine Calls.mono HP.out ?_
        rintro e w2 ⟨v2, rfl, ho2, hb2, hk2⟩
        go_wp2
        go_roundw
        case rel => exact ⟨q + 1, by omega, by go_num, by rw [HT.out, encs_snoc, ← List.append_assoc]; exact ho2, hB.trans hb2, hK.trans hk2, by rw [HT.out, List.all_append, HA.out]; simpa using HM.out⟩
        case measure => simp [intOf]; omega
      · have hm' : mayB p k i d r = false := by simpa using hm
        have HNA : Hid (ts.all (mayT p) = false) := by
          show _ = _
          rcases hz : ts.all (mayT p) with _ | _
          · rfl
          · exact absurd (HS.out hz) (by simp [mayT, hm'])
        have HP : Hid (Calls Tryz.prog 146 #[u0, .agg #[.int .i64 k, .int .i64 i, .int .i64 d, .bool r], .func (.func f) #[] #[]] (wr.alloc (.cells #[.int .i64 k, .int .i64 i, .int .i64 d, .bool r] 44)) fun e w' => e = .returned (.tuple #[.slice none 0 0, .int .i64 17]) ∧ Below base w w' ∧ Keeps w w') := by
          refine (putType_no hF _ u0 k i d r hm').mono ?_
          rintro e w' ⟨rfl, h2⟩
          exact ⟨rfl, hB.trans ((below_box h2).mono (by omega)), hK.trans (Keeps.of_below (below_box h2))⟩
        clear hm hm' hall
        go_wp2_with fail
        refine Calls.mono HP.out ?_
        rintro e w2 ⟨rfl, hb2, hk2⟩
        go_wp2
        go_ret2
        exact ⟨fun h => absurd h (by rw [HNA.out]; decide), fun _ => rfl, hb2, hk2⟩
    · have hqq : q = ts.length := by omega
      subst hqq
      rw [List.take_length] at HO hall
      have HA : Hid (ts.all (mayT p) = true) := hall
      clear hall
      go_wp2
      go_ret2
      exact ⟨fun _ => ⟨_, rfl, HO.out⟩, fun h => absurd HA.out (by rw [h]; decide), hB, hK⟩

set_option maxHeartbeats 400000 in
theorem putTypes_none {f : FuncId} {v : Value} {x : Option Addr} {cap : Nat} (w : World) :
    Calls Tryz.prog 150 #[v, .slice x 0 cap, .func (.func f) #[] #[]] w fun e w' => e = .returned (.tuple #[v, .int .i64 0]) ∧ w' = w := by
  go_enter Tryz.func150, Tryz.ntmps150
  go_wp2
  go_loopw [0, 13] (fun u z wr => z = .int .i64 0 ∧ u = v ∧ wr = w) (fun _ z _ => 0)
  case atStart => exact ⟨rfl, rfl, rfl⟩
  case round =>
    obtain ⟨rfl, rfl, rfl⟩ := hrel
    go_wp2
    go_ret2
    exact ⟨rfl, rfl⟩

theorem putTypes_any {f : FuncId} {p : Nat} (hF : Rule f p) {w : World} {base : Nat} {v lv : Value} {xs : List UInt8} (hv : Own w base 5 v xs) (hbase : base ≤ w.heap.size) (hx : xs.length ≤ 1000) {ts : List Ty} (hT : Ts w lv ts) (hlen : ts.length ≤ 100) (hb : ts ≠ [] → ∀ k, lv.ownBlock = some k → k < base) :
    Calls Tryz.prog 150 #[v, lv, .func (.func f) #[] #[]] w fun e w' =>
      (ts.all (mayT p) = true → ∃ v', e = .returned (.tuple #[v', .int .i64 0]) ∧ Own w' base 5 v' (xs ++ encs ts)) ∧ (ts.all (mayT p) = false → e = .returned (.tuple #[.slice none 0 0, .int .i64 17])) ∧ Below base w w' ∧ Keeps w w' := by
  obtain ⟨a, cap, rfl, h1, h2, h3⟩ := hT
  by_cases hne : ts = []
  · subst hne
    refine (putTypes_none w).mono ?_
    rintro e w' ⟨rfl, rfl⟩
    exact ⟨fun _ => ⟨v, rfl, by simpa [encs] using hv⟩, fun h => by simp at h, Below.refl _ _, Keeps.refl _⟩
  · obtain ⟨b, off, rfl, hb1, hc⟩ := h3 hne
    exact putTypes_some hF hv hbase hx ts hlen (hb hne b rfl) hc

theorem putCount_any (c : Nat) (hc : c < 256) (n : Nat) (hn : n ≤ 100) (x : Option Addr) (cap : Nat) (w : World) (base : Nat) (hbase : base ≤ w.heap.size) :
    Calls Tryz.prog 148 #[.int .u8 (c : Int), .slice x n cap] w fun e w' => ∃ v, e = .returned v ∧ Own w' base 5 v [UInt8.ofNat c, UInt8.ofNat n] ∧ Below w.heap.size w w' := by
  have hp : pkL n = [UInt8.ofNat n] := by unfold pkL; rw [if_pos (by omega)]
  have hlit : Own (w.alloc (.cells #[.int .u8 (c : Int)] 5)) base 5 (.slice (some ⟨w.heap.size, 0, none⟩) 1 1) [UInt8.ofNat c] := Own.lit w base 5 [UInt8.ofNat c] _ 1 hbase (by simp [u8s]; omega) rfl (by simp [maxLen])
  have HP : Hid (Calls Tryz.prog 171 #[.slice (some ⟨w.heap.size, 0, none⟩) 1 1, .int .i64 (n : Int)] (w.alloc (.cells #[.int .u8 (c : Int)] 5)) fun e w' => ∃ v', e = .returned (.tuple #[v', .int .i64 0]) ∧ Own w' base 5 v' [UInt8.ofNat c, UInt8.ofNat n] ∧ Below w.heap.size w w') := by
    refine (pack_own hlit (by simp) (by simp; omega) n (by omega)).mono ?_
    rintro e w' ⟨v', rfl, h1, h2⟩
    rw [hp] at h1
    exact ⟨v', rfl, h1, ((Below.refl _ _).alloc (Nat.le_refl _) _).trans (h2.mono (by simp))⟩
  clear hlit hp
  go_enter Tryz.func148, Tryz.ntmps148
  go_wp2_with fail
  refine Calls.mono HP.out ?_
  rintro e w1 ⟨v1, rfl, h1, h2⟩
  go_wp2
  go_ret
  exact ⟨_, rfl, h1, h2⟩

end Go.Proofs.YtclmafoelibihaaGreat
