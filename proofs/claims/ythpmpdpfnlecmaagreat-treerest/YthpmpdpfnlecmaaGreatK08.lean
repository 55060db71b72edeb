/- Texts joined: TList5, PutSig5, ImSpec. -/
import Derived.Test.YthpmpdpfnlecmaaGreatK07
import Derived.Deep.RegionHeld3
import Derived.Test.YthpmpdpfnlecmaaGreatK05
import Derived.Test.YthpmpdpfnlecmaaGreatK06
import Derived.Test.YthpmpdpfnlecmaaGreatK01
import Derived.Test.YthpmpdpfnlecmaaGreatK04
namespace Go.Proofs.YthpmpdpfnlecmaaGreat
set_option linter.unusedVariables false
set_option linter.unusedSimpArgs false
open Go.RowKit
/-- The value is a slice of just these types in that world. -/
def Ts (w : World) (v : Value) (ts : List Ty) : Prop :=
 ∃ a cap, v = .slice a ts.length cap ∧ ts.length ≤ cap ∧ cap ≤ maxLen ∧
  (ts ≠ [] → ∃ b off, a = some ⟨b, off, none⟩ ∧ b < w.heap.size ∧ ∀ i (h : i < ts.length), w.cell? ⟨b, off + i * 4, none⟩ = some (.int .i64 ts[i].1) ∧ w.cell? ⟨b, off + i * 4 + 1, none⟩ = some (.int .i64 ts[i].2.1) ∧
   w.cell? ⟨b, off + i * 4 + 2, none⟩ = some (.int .i64 ts[i].2.2.1) ∧ w.cell? ⟨b, off + i * 4 + 3, none⟩ = some (.bool ts[i].2.2.2))

theorem Ts.nil (w : World) : Ts w (.slice none 0 0) [] := ⟨none, 0, rfl, Nat.le_refl _, Nat.zero_le _, fun h => absurd rfl h⟩
theorem Ts.len {w : World} {v : Value} {ts : List Ty} (h : Ts w v ts) : ts.length ≤ maxLen := by
 obtain ⟨a, cap, _, h1, h2, _⟩ := h; omega
theorem Ts.of_block {w w' : World} {v : Value} {ts : List Ty} (h : Ts w v ts) (hs : w.heap.size ≤ w'.heap.size) (hk : ∀ k, v.ownBlock = some k → k < w.heap.size → w'.heap[k]? = w.heap[k]?) : Ts w' v ts := by
 obtain ⟨a, cap, rfl, h1, h2, h3⟩ := h
 refine ⟨a, cap, rfl, h1, h2, fun hne => ?_⟩
 obtain ⟨b, off, rfl, hb, hc⟩ := h3 hne
 refine ⟨b, off, rfl, by omega, fun i hi => ?_⟩
 have e : ∀ o, w'.cell? ⟨b, o, none⟩ = w.cell? ⟨b, o, none⟩ := fun o => World.cell?_of_block (hk b rfl hb)
 rw [e, e, e, e]
 exact hc i hi
theorem Ts.below {w w' : World} {v : Value} {ts : List Ty} {B : Nat} (h : Ts w v ts) (hb : Below B w w') (hk : ∀ k, v.ownBlock = some k → k < B) : Ts w' v ts :=
 h.of_block hb.size fun k hv _ => hb.block k (hk k hv)
theorem Ts.later {w w' : World} {v : Value} {ts : List Ty} (h : Ts w v ts) (hb : Below w.heap.size w w') : Ts w' v ts :=
 h.of_block hb.size fun k _ hk => hb.block k hk
theorem Ts.lt {w : World} {v : Value} {ts : List Ty} (h : Ts w v ts) (hne : ts ≠ []) : ∀ g, v.ownBlock = some g → g < w.heap.size := by
 obtain ⟨a, cap, rfl, _, _, h3⟩ := h
 obtain ⟨b, off, rfl, hb, _⟩ := h3 hne
 intro g hg
 simp [Value.ownBlock] at hg
 omega
theorem Ts.drewN {w : World} {v : Value} {ts : List Ty} (h : Ts w v ts) (n : Nat) : Ts (w.drewN n) v ts :=
 h.of_block (Nat.le_refl _) fun _ _ _ => rfl

/-- The bytes of types, one behind the other. -/
def encs (ts : List Ty) : List UInt8 := ts.flatMap encT
theorem encs_snoc (ts : List Ty) (t : Ty) : encs (ts ++ [t]) = encs ts ++ encT t := by simp [encs]
theorem encs_cons (t : Ty) (ts : List Ty) : encs (t :: ts) = encT t ++ encs ts := by simp [encs]

theorem enc_len (t : Ty) (h : plainT t = true) : (encT t).length ≤ 10 := by
 obtain ⟨k, i, d, r⟩ := t
 have h' : plainB k i d r = true := h
 obtain ⟨h1, h2, h3, h4⟩ := plain_facts h'
 have hn : (numL k i).length ≤ 4 := by
  have q : ∀ n, n ≤ 536870911 → (pkL n).length ≤ 4 := fun n hn => by
   have := pkL_length n hn
   unfold sizeI at this
   repeat' split at this
   all_goals omega
  unfold numL
  repeat' split
  ·exact q _ (by omega)
  ·exact q _ (by omega)
  ·simp
 have hh : (headL r).length ≤ 1 := by unfold headL; split <;> simp
 simp only [encT, encB, List.length_append, List.length_replicate, List.length_cons]
 omega

theorem encs_len (ts : List Ty) (p : Nat) (hp : ∀ t, mayT p t = true → plainT t = true) (h : ts.all (mayT p) = true) : (encs ts).length ≤ 10 * ts.length := by
 induction ts with
 | nil => simp [encs]
 | cons t r ih =>
  simp only [List.all_cons, Bool.and_eq_true] at h
  have h1 := enc_len t (hp t h.1)
  have h2 := ih h.2
  rw [encs_cons, List.length_append, List.length_cons]
  omega

theorem Rule.plainT {f : FuncId} {p : Nat} (h : Rule f p) (t : Ty) (ht : mayT p t = true) : plainT t = true := h.plain t.1 t.2.1 t.2.2.1 t.2.2.2 ht

set_option maxHeartbeats 1000000 in
set_option maxRecDepth 100000 in
theorem putTypes_some {f : FuncId} {p : Nat} (hF : Rule f p) {w : World} {base b off cap : Nat} {v : Value} {xs : List UInt8} (hv : Own w base 5 v xs) (hbase : base ≤ w.heap.size) (hx : xs.length ≤ 1000) (ts : List Ty) (hlen : ts.length ≤ 100) (hb : b < base)
  (hcell : ∀ i (h : i < ts.length), w.cell? ⟨b, off + i * 4, none⟩ = some (.int .i64 ts[i].1) ∧ w.cell? ⟨b, off + i * 4 + 1, none⟩ = some (.int .i64 ts[i].2.1) ∧
   w.cell? ⟨b, off + i * 4 + 2, none⟩ = some (.int .i64 ts[i].2.2.1) ∧ w.cell? ⟨b, off + i * 4 + 3, none⟩ = some (.bool ts[i].2.2.2)) :
  Calls Tryz.prog 220 #[v, .slice (some ⟨b, off, none⟩) ts.length cap, .func (.func f) #[] #[]] w fun e w' =>
   (ts.all (mayT p) = true → ∃ v', e = .returned (.tuple #[v', .int .i64 0]) ∧ Own w' base 5 v' (xs ++ encs ts)) ∧ (ts.all (mayT p) = false → e = .returned (.tuple #[.slice none 0 0, .int .i64 17])) ∧ Below base w w' ∧ Keeps w w' := by
 have HC : Hid (∀ i (h : i < ts.length), w.cell? ⟨b, off + i * 4, none⟩ = some (.int .i64 ts[i].1) ∧ w.cell? ⟨b, off + i * 4 + 1, none⟩ = some (.int .i64 ts[i].2.1) ∧
   w.cell? ⟨b, off + i * 4 + 2, none⟩ = some (.int .i64 ts[i].2.2.1) ∧ w.cell? ⟨b, off + i * 4 + 3, none⟩ = some (.bool ts[i].2.2.2)) := hcell
 clear hcell
 have HPl : Hid (∀ t, mayT p t = true → plainT t = true) := hF.plainT
 go_enter Tryz.func220, Tryz.ntmps220
 go_wp2
 go_loopw [0, 13] (fun u z wr => ∃ q : Nat, q ≤ ts.length ∧ z = .int .i64 (q : Int) ∧ Own wr base 5 u (xs ++ encs (ts.take q)) ∧ Below base w wr ∧ Keeps w wr ∧ (ts.take q).all (mayT p) = true) (fun _ z _ => ts.length - (intOf z).toNat)
 case atStart => exact ⟨0, Nat.zero_le _, rfl, by simpa [encs] using hv, Below.refl _ _, Keeps.refl _, by simp⟩
 case round =>
  obtain ⟨q, hq, rfl, ho, hB, hK, hall⟩ := hrel
  have hsw := hB.size
  have HO : Hid (Own wr base 5 u0 (xs ++ encs (ts.take q))) := ho
  clear hv ho
  by_cases hql : q < ts.length
  ·obtain ⟨c0, c1, c2, c3⟩ := HC.out q hql
   have e : ∀ o, wr.cell? ⟨b, o, none⟩ = w.cell? ⟨b, o, none⟩ := fun o => hB.cell (p := ⟨b, o, none⟩) hb
   rw [← e] at c0 c1 c2 c3
   clear e
   have HT : Hid (ts.take (q + 1) = ts.take q ++ [ts[q]]) := by show _ = _; rw [List.take_succ_eq_append_getElem hql]
   have HS : Hid (ts.all (mayT p) = true → mayT p ts[q] = true) := fun h => List.all_eq_true.1 h _ (List.getElem_mem hql)
   generalize ts[q] = t at *
   obtain ⟨k, i, d, r⟩ := t
   simp only at c0 c1 c2 c3
   have hle := encs_len (ts.take q) p HPl.out hall
   have hle2 : (xs ++ encs (ts.take q)).length ≤ 1000000 := by simp at hle ⊢; omega
   have HLE : Hid ((xs ++ encs (ts.take q)).length ≤ 1000000) := hle2
   clear hle hle2
   have hbx : Below wr.heap.size wr (wr.alloc (.cells #[.int .i64 k, .int .i64 i, .int .i64 d, .bool r] 51)) := (Below.refl _ _).alloc (Nat.le_refl _) _
   by_cases hm : mayB p k i d r = true
   ·have HP : Hid (Calls Tryz.prog 216 #[u0, .agg #[.int .i64 k, .int .i64 i, .int .i64 d, .bool r], .func (.func f) #[] #[]] (wr.alloc (.cells #[.int .i64 k, .int .i64 i, .int .i64 d, .bool r] 51)) fun e w' => ∃ v', e = .returned (.tuple #[v', .int .i64 0]) ∧ Own w' base 5 v' (xs ++ encs (ts.take q) ++ encB k i d r) ∧ Below base wr w' ∧ Keeps wr w') := by
     refine (putType_yes hF (HO.out.later hbx) (by simp; omega) HLE.out k i d r hm).mono ?_
     rintro e w' ⟨v', rfl, h1, h2, h3⟩
     exact ⟨v', rfl, h1, (hbx.mono (by omega)).trans h2, (Keeps.of_below hbx).trans h3⟩
    have HM : Hid (mayT p (k, i, d, r) = true) := hm
    have HA : Hid ((ts.take q).all (mayT p) = true) := hall
    clear hall hbx hm
    go_wp2_with fail
    refine Calls.mono HP.out ?_
    rintro e w2 ⟨v2, rfl, ho2, hb2, hk2⟩
    go_wp2
    go_roundw
    case rel => exact ⟨q + 1, by omega, by go_num, by rw [HT.out, encs_snoc, ← List.append_assoc]; exact ho2, hB.trans hb2, hK.trans hk2, by rw [HT.out, List.all_append, HA.out]; simpa using HM.out⟩
    case measure => simp [intOf]; omega
   ·have hm' : mayB p k i d r = false := by simpa using hm
    have HNA : Hid (ts.all (mayT p) = false) := by
     show _ = _
     rcases hz : ts.all (mayT p) with _ | _
     ·rfl
     ·exact absurd (HS.out hz) (by simp [mayT, hm'])
    have HP : Hid (Calls Tryz.prog 216 #[u0, .agg #[.int .i64 k, .int .i64 i, .int .i64 d, .bool r], .func (.func f) #[] #[]] (wr.alloc (.cells #[.int .i64 k, .int .i64 i, .int .i64 d, .bool r] 51)) fun e w' => e = .returned (.tuple #[.slice none 0 0, .int .i64 17]) ∧ Below base w w' ∧ Keeps w w') := by
     refine (putType_no hF _ u0 k i d r hm').mono ?_
     rintro e w' ⟨rfl, h2⟩
     exact ⟨rfl, hB.trans ((below_box h2).mono (by omega)), hK.trans (Keeps.of_below (below_box h2))⟩
    clear hm hm' hall
    go_wp2_with fail
    refine Calls.mono HP.out ?_
    rintro e w2 ⟨rfl, hb2, hk2⟩
    go_wp2
    go_ret2
    exact ⟨fun h => absurd h (by rw [HNA.out]; decide), fun _ => rfl, hb2, hk2⟩
  ·have hqq : q = ts.length := by omega
   subst hqq
   rw [List.take_length] at HO hall
   have HA : Hid (ts.all (mayT p) = true) := hall
   clear hall
   go_wp2
   go_ret2
   exact ⟨fun _ => ⟨_, rfl, HO.out⟩, fun h => absurd HA.out (by rw [h]; decide), hB, hK⟩

set_option maxHeartbeats 400000 in
theorem putTypes_none {f : FuncId} {v : Value} {x : Option Addr} {cap : Nat} (w : World) :
  Calls Tryz.prog 220 #[v, .slice x 0 cap, .func (.func f) #[] #[]] w fun e w' => e = .returned (.tuple #[v, .int .i64 0]) ∧ w' = w := by
 go_enter Tryz.func220, Tryz.ntmps220
 go_wp2
 go_loopw [0, 13] (fun u z wr => z = .int .i64 0 ∧ u = v ∧ wr = w) (fun _ z _ => 0)
 case atStart => exact ⟨rfl, rfl, rfl⟩
 case round =>
  obtain ⟨rfl, rfl, rfl⟩ := hrel
  go_wp2
  go_ret2
  exact ⟨rfl, rfl⟩

theorem putTypes_any {f : FuncId} {p : Nat} (hF : Rule f p) {w : World} {base : Nat} {v lv : Value} {xs : List UInt8} (hv : Own w base 5 v xs) (hbase : base ≤ w.heap.size) (hx : xs.length ≤ 1000) {ts : List Ty} (hT : Ts w lv ts) (hlen : ts.length ≤ 100) (hb : ts ≠ [] → ∀ k, lv.ownBlock = some k → k < base) :
  Calls Tryz.prog 220 #[v, lv, .func (.func f) #[] #[]] w fun e w' =>
   (ts.all (mayT p) = true → ∃ v', e = .returned (.tuple #[v', .int .i64 0]) ∧ Own w' base 5 v' (xs ++ encs ts)) ∧ (ts.all (mayT p) = false → e = .returned (.tuple #[.slice none 0 0, .int .i64 17])) ∧ Below base w w' ∧ Keeps w w' := by
 obtain ⟨a, cap, rfl, h1, h2, h3⟩ := hT
 by_cases hne : ts = []
 ·subst hne
  refine (putTypes_none w).mono ?_
  rintro e w' ⟨rfl, rfl⟩
  exact ⟨fun _ => ⟨v, rfl, by simpa [encs] using hv⟩, fun h => by simp at h, Below.refl _ _, Keeps.refl _⟩
 ·obtain ⟨b, off, rfl, hb1, hc⟩ := h3 hne
  exact putTypes_some hF hv hbase hx ts hlen (hb hne b rfl) hc

theorem putCount_any (c : Nat) (hc : c < 256) (n : Nat) (hn : n ≤ 100) (x : Option Addr) (cap : Nat) (w : World) (base : Nat) (hbase : base ≤ w.heap.size) :
  Calls Tryz.prog 218 #[.int .u8 (c : Int), .slice x n cap] w fun e w' => ∃ v, e = .returned v ∧ Own w' base 5 v [UInt8.ofNat c, UInt8.ofNat n] ∧ Below w.heap.size w w' := by
 have hp : pkL n = [UInt8.ofNat n] := by unfold pkL; rw [if_pos (by omega)]
 have hlit : Own (w.alloc (.cells #[.int .u8 (c : Int)] 5)) base 5 (.slice (some ⟨w.heap.size, 0, none⟩) 1 1) [UInt8.ofNat c] := Own.lit w base 5 [UInt8.ofNat c] _ 1 hbase (by simp [u8s]; omega) rfl (by simp [maxLen])
 have HP : Hid (Calls Tryz.prog 240 #[.slice (some ⟨w.heap.size, 0, none⟩) 1 1, .int .i64 (n : Int)] (w.alloc (.cells #[.int .u8 (c : Int)] 5)) fun e w' => ∃ v', e = .returned (.tuple #[v', .int .i64 0]) ∧ Own w' base 5 v' [UInt8.ofNat c, UInt8.ofNat n] ∧ Below w.heap.size w w') := by
  refine (pack_own hlit (by simp) (by simp; omega) n (by omega)).mono ?_
  rintro e w' ⟨v', rfl, h1, h2⟩
  rw [hp] at h1
  exact ⟨v', rfl, h1, ((Below.refl _ _).alloc (Nat.le_refl _) _).trans (h2.mono (by simp))⟩
 clear hlit hp
 go_enter Tryz.func218, Tryz.ntmps218
 go_wp2_with fail
 refine Calls.mono HP.out ?_
 rintro e w1 ⟨v1, rfl, h1, h2⟩
 go_wp2
 go_ret
 exact ⟨_, rfl, h1, h2⟩
/-- A signature's first byte, its bytes, the error. -/
def hdN (this : Bool) : Nat := if this then 32 else 0
def sigL (this : Bool) (ts : List Ty) (ret : Ty) : List UInt8 := UInt8.ofNat (hdN this) :: UInt8.ofNat ts.length :: (encT ret ++ encs ts)
def sigE (ts : List Ty) (ret : Ty) : Nat := if 6 < ts.length then 4 else if mayT 3 ret = true ∧ ts.all (mayT 2) = true then 0 else 17
def locL (ts : List Ty) : List UInt8 := 7 :: UInt8.ofNat ts.length :: encs ts
def locE (ts : List Ty) : Nat := if 12 < ts.length then 4 else if ts.all (mayT 2) = true then 0 else 17

/-- What a call that answers bytes leaves. -/
def PutR (w w' : World) (bs : List UInt8) (er : Nat) (e : Ending) : Prop :=
 (er = 0 → ∃ v', e = .returned (.tuple #[v', .int .i64 0]) ∧ Own w' w.heap.size 5 v' bs) ∧ (er ≠ 0 → e = .returned (.tuple #[.slice none 0 0, .int .i64 (er : Int)])) ∧ Below w.heap.size w w'

set_option maxHeartbeats 2000000 in
set_option maxRecDepth 100000 in
theorem putSig_any {w : World} {pv : Value} {ts : List Ty} (hT : Ts w pv ts) (this : Bool) (k i d : Int) (r : Bool) :
  Calls Tryz.prog 191 #[.agg #[.bool this, pv, .int .i64 k, .int .i64 i, .int .i64 d, .bool r]] w fun e w' => PutR w w' (sigL this ts (k, i, d, r)) (sigE ts (k, i, d, r)) e := by
 obtain ⟨pa, pc, rfl, hp1, hp2, hp3⟩ := id hT
 unfold maxLen at hp2
 have hb0 : Below w.heap.size w (w.alloc (.cells #[.bool this, .slice pa ts.length pc, .int .i64 k, .int .i64 i, .int .i64 d, .bool r] 166)) := (Below.refl _ _).alloc (Nat.le_refl _) _
 have hS0 := At.made w #[.bool this, .slice pa ts.length pc, .int .i64 k, .int .i64 i, .int .i64 d, .bool r] 166
 by_cases h6 : 6 < ts.length
 ·have HE : Hid (sigE ts (k, i, d, r) = 4) := by show _ = _; unfold sigE; rw [if_pos h6]
  clear hT hp3 hS0
  go_enter Tryz.func191, Tryz.ntmps191
  go_wp2
  go_ret2
  exact ⟨fun h => absurd h (by rw [HE.out]; decide), fun _ => by rw [HE.out]; rfl, hb0⟩
 ·have HT : Hid (Ts w (.slice pa ts.length pc) ts) := hT
  have hlen : ts.length ≤ 6 := by omega
  have HPC : Hid (∀ W : World, w.heap.size ≤ W.heap.size → Calls Tryz.prog 218 #[.int .u8 (hdN this : Int), .slice pa ts.length pc] W fun e w' => ∃ v, e = .returned v ∧ Own w' w.heap.size 5 v [UInt8.ofNat (hdN this), UInt8.ofNat ts.length] ∧ Below W.heap.size W w') := fun W hW => by
   refine (putCount_any (hdN this) (by unfold hdN; split <;> omega) ts.length (by omega) pa pc W w.heap.size hW).mono ?_
   rintro e w' ⟨v, rfl, h1, h2⟩
   exact ⟨v, rfl, h1, h2⟩
  have HKP : Hid (∀ W, At W w.heap.size #[.bool this, .slice pa ts.length pc, .int .i64 k, .int .i64 i, .int .i64 d, .bool r] 166 → W.cell? ⟨w.heap.size, 1, none⟩ = some (.slice pa ts.length pc) ∧ W.cell? ⟨w.heap.size, 2, none⟩ = some (.int .i64 k) ∧ W.cell? ⟨w.heap.size, 3, none⟩ = some (.int .i64 i) ∧ W.cell? ⟨w.heap.size, 4, none⟩ = some (.int .i64 d) ∧ W.cell? ⟨w.heap.size, 5, none⟩ = some (.bool r)) := fun W hW => by
   simp [hW.cell]
  clear hT hp3
  by_cases hm : mayB 3 k i d r = true
  ·have HPT : Hid (∀ (W : World) (v : Value), Own W w.heap.size 5 v [UInt8.ofNat (hdN this), UInt8.ofNat ts.length] → w.heap.size ≤ W.heap.size → Calls Tryz.prog 216 #[v, .agg #[.int .i64 k, .int .i64 i, .int .i64 d, .bool r], .func (.func 219) #[] #[]] W fun e w' => ∃ v', e = .returned (.tuple #[v', .int .i64 0]) ∧ Own w' w.heap.size 5 v' ([UInt8.ofNat (hdN this), UInt8.ofNat ts.length] ++ encB k i d r) ∧ Below w.heap.size W w' ∧ Keeps W w') :=
    fun W v hv hW => putType_yes rule_answer hv hW (by simp) k i d r hm
   have HL : Hid (([UInt8.ofNat (hdN this), UInt8.ofNat ts.length] ++ encB k i d r).length ≤ 1000) := by
    have := enc_len (k, i, d, r) (rule_answer.plainT (k, i, d, r) hm)
    have e : encT (k, i, d, r) = encB k i d r := rfl
    rw [e] at this
    show _ ≤ _
    simp; omega
   have HE1 : Hid (ts.all (mayT 2) = true → sigE ts (k, i, d, r) = 0) := fun h => by unfold sigE; rw [if_neg h6, if_pos ⟨hm, h⟩]
   have HE2 : Hid (ts.all (mayT 2) = false → sigE ts (k, i, d, r) = 17) := fun h => by unfold sigE; rw [if_neg h6, if_neg (by rw [h]; simp)]
   clear hm
   cases this with
   | true =>
    go_enter Tryz.func191, Tryz.ntmps191
    go_wp2_with fail
    go_region_held3 (fun w' => w'.cell? ⟨w.heap.size, 1, none⟩ = some (.slice pa ts.length pc) ∧ w'.cell? ⟨w.heap.size, 2, none⟩ = some (.int .i64 k) ∧ w'.cell? ⟨w.heap.size, 3, none⟩ = some (.int .i64 i) ∧ w'.cell? ⟨w.heap.size, 4, none⟩ = some (.int .i64 d) ∧ w'.cell? ⟨w.heap.size, 5, none⟩ = some (.bool r)) (first | go_keep | (exact HKP.out _ hA1) | (exact HKP.out _ hA2))
     (first
      | (go_at_call 218; refine (HPC.out _ (by simp)).mono ?_; rintro e w1 ⟨v1, rfl, ho1, hb1⟩; have hA1 := (hS0.drewN 1).later hb1)
      | (go_at_call 216; refine (HPT.out _ v1 ho1 (by have := hb1.size; simp at this; omega)).mono ?_; rintro e w2 ⟨v2, rfl, ho2, hb2, hk2⟩; have hA2 := hk2 _ _ _ (by decide) hA1))
    rename_i hheld
    clear hheld
    have hB2 : Below w.heap.size w w2 := (Below.drewN hb0 1).trans ((hb1.mono (by simp)).trans hb2)
    have tc := hA2.cell
    have HPs : Hid (Calls Tryz.prog 220 #[v2, .slice pa ts.length pc, .func (.func 221) #[] #[]] w2 fun e w' =>
      (ts.all (mayT 2) = true → ∃ v', e = .returned (.tuple #[v', .int .i64 0]) ∧ Own w' w.heap.size 5 v' ([UInt8.ofNat (hdN true), UInt8.ofNat ts.length] ++ encB k i d r ++ encs ts)) ∧ (ts.all (mayT 2) = false → e = .returned (.tuple #[.slice none 0 0, .int .i64 17])) ∧ Below w.heap.size w2 w' ∧ Keeps w2 w') :=
     putTypes_any rule_var ho2 hB2.size HL.out (HT.out.later hB2) (by omega) fun hne => HT.out.lt hne
    clear ho1 hb1 hA1 ho2 hb2 hk2 hA2 HPC HPT HKP hS0
    go_wp2_with fail
    refine Calls.mono HPs.out ?_
    rintro e w3 ⟨g1, g2, g3, g4⟩
    rcases hall : ts.all (mayT 2) with _ | _
    ·obtain rfl := g2 hall
     have HA : Hid (sigE ts (k, i, d, r) = 17) := HE2.out hall
     clear g1 g2 hall
     go_wp2
     go_ret2
     exact ⟨fun h => absurd h (by rw [HA.out]; decide), fun _ => by rw [HA.out]; rfl, hB2.trans g3⟩
    ·obtain ⟨v3, rfl, h3⟩ := g1 hall
     have HA : Hid (sigE ts (k, i, d, r) = 0) := HE1.out hall
     clear g1 g2 hall
     go_wp2
     go_ret2
     exact ⟨fun _ => ⟨_, rfl, by simpa [sigL, encT] using h3⟩, fun h => absurd HA.out h, hB2.trans g3⟩
   | false =>
    go_enter Tryz.func191, Tryz.ntmps191
    go_wp2_with fail
    go_region_held3 (fun w' => w'.cell? ⟨w.heap.size, 1, none⟩ = some (.slice pa ts.length pc) ∧ w'.cell? ⟨w.heap.size, 2, none⟩ = some (.int .i64 k) ∧ w'.cell? ⟨w.heap.size, 3, none⟩ = some (.int .i64 i) ∧ w'.cell? ⟨w.heap.size, 4, none⟩ = some (.int .i64 d) ∧ w'.cell? ⟨w.heap.size, 5, none⟩ = some (.bool r)) (first | go_keep | (exact HKP.out _ hA1) | (exact HKP.out _ hA2))
     (first
      | (go_at_call 218; refine (HPC.out _ (by simp)).mono ?_; rintro e w1 ⟨v1, rfl, ho1, hb1⟩; have hA1 := (hS0.drewN 1).later hb1)
      | (go_at_call 216; refine (HPT.out _ v1 ho1 (by have := hb1.size; simp at this; omega)).mono ?_; rintro e w2 ⟨v2, rfl, ho2, hb2, hk2⟩; have hA2 := hk2 _ _ _ (by decide) hA1))
    rename_i hheld
    clear hheld
    have hB2 : Below w.heap.size w w2 := (Below.drewN hb0 1).trans ((hb1.mono (by simp)).trans hb2)
    have tc := hA2.cell
    have HPs : Hid (Calls Tryz.prog 220 #[v2, .slice pa ts.length pc, .func (.func 221) #[] #[]] w2 fun e w' =>
      (ts.all (mayT 2) = true → ∃ v', e = .returned (.tuple #[v', .int .i64 0]) ∧ Own w' w.heap.size 5 v' ([UInt8.ofNat (hdN false), UInt8.ofNat ts.length] ++ encB k i d r ++ encs ts)) ∧ (ts.all (mayT 2) = false → e = .returned (.tuple #[.slice none 0 0, .int .i64 17])) ∧ Below w.heap.size w2 w' ∧ Keeps w2 w') :=
     putTypes_any rule_var ho2 hB2.size HL.out (HT.out.later hB2) (by omega) fun hne => HT.out.lt hne
    clear ho1 hb1 hA1 ho2 hb2 hk2 hA2 HPC HPT HKP hS0
    go_wp2_with fail
    refine Calls.mono HPs.out ?_
    rintro e w3 ⟨g1, g2, g3, g4⟩
    rcases hall : ts.all (mayT 2) with _ | _
    ·obtain rfl := g2 hall
     have HA : Hid (sigE ts (k, i, d, r) = 17) := HE2.out hall
     clear g1 g2 hall
     go_wp2
     go_ret2
     exact ⟨fun h => absurd h (by rw [HA.out]; decide), fun _ => by rw [HA.out]; rfl, hB2.trans g3⟩
    ·obtain ⟨v3, rfl, h3⟩ := g1 hall
     have HA : Hid (sigE ts (k, i, d, r) = 0) := HE1.out hall
     clear g1 g2 hall
     go_wp2
     go_ret2
     exact ⟨fun _ => ⟨_, rfl, by simpa [sigL, encT] using h3⟩, fun h => absurd HA.out h, hB2.trans g3⟩
  ·have hm' : mayB 3 k i d r = false := by simpa using hm
   have HPT : Hid (∀ (W : World) (v : Value), Calls Tryz.prog 216 #[v, .agg #[.int .i64 k, .int .i64 i, .int .i64 d, .bool r], .func (.func 219) #[] #[]] W fun e w' => e = .returned (.tuple #[.slice none 0 0, .int .i64 17]) ∧ Below W.heap.size W w') :=
    fun W v => putType_no rule_answer W v k i d r hm'
   have HE : Hid (sigE ts (k, i, d, r) = 17) := by show _ = _; unfold sigE; rw [if_neg h6, if_neg (by simp [mayT, hm'])]
   clear hm hm'
   cases this with
   | true =>
    go_enter Tryz.func191, Tryz.ntmps191
    go_wp2_with fail
    go_region_held3 (fun w' => w'.cell? ⟨w.heap.size, 1, none⟩ = some (.slice pa ts.length pc) ∧ w'.cell? ⟨w.heap.size, 2, none⟩ = some (.int .i64 k) ∧ w'.cell? ⟨w.heap.size, 3, none⟩ = some (.int .i64 i) ∧ w'.cell? ⟨w.heap.size, 4, none⟩ = some (.int .i64 d) ∧ w'.cell? ⟨w.heap.size, 5, none⟩ = some (.bool r)) (first | go_keep | (exact HKP.out _ hA1) | (exact HKP.out _ hA2))
     (first
      | (go_at_call 218; refine (HPC.out _ (by simp)).mono ?_; rintro e w1 ⟨v1, rfl, ho1, hb1⟩; have hA1 := (hS0.drewN 1).later hb1)
      | (go_at_call 216; refine (HPT.out _ v1).mono ?_; rintro e w2 ⟨rfl, hb2⟩; have hA2 := hA1.later hb2))
    rename_i hheld
    clear hheld
    have hB2 : Below w.heap.size w w2 := (Below.drewN hb0 1).trans ((hb1.mono (by simp)).trans (hb2.mono (by have := hb1.size; simp at this; omega)))
    clear ho1 hb1 hA1 hb2 hA2 HPC HPT HKP hS0
    go_wp2
    go_ret2
    exact ⟨fun h => absurd h (by rw [HE.out]; decide), fun _ => by rw [HE.out]; rfl, hB2⟩
   | false =>
    go_enter Tryz.func191, Tryz.ntmps191
    go_wp2_with fail
    go_region_held3 (fun w' => w'.cell? ⟨w.heap.size, 1, none⟩ = some (.slice pa ts.length pc) ∧ w'.cell? ⟨w.heap.size, 2, none⟩ = some (.int .i64 k) ∧ w'.cell? ⟨w.heap.size, 3, none⟩ = some (.int .i64 i) ∧ w'.cell? ⟨w.heap.size, 4, none⟩ = some (.int .i64 d) ∧ w'.cell? ⟨w.heap.size, 5, none⟩ = some (.bool r)) (first | go_keep | (exact HKP.out _ hA1) | (exact HKP.out _ hA2))
     (first
      | (go_at_call 218; refine (HPC.out _ (by simp)).mono ?_; rintro e w1 ⟨v1, rfl, ho1, hb1⟩; have hA1 := (hS0.drewN 1).later hb1)
      | (go_at_call 216; refine (HPT.out _ v1).mono ?_; rintro e w2 ⟨rfl, hb2⟩; have hA2 := hA1.later hb2))
    rename_i hheld
    clear hheld
    have hB2 : Below w.heap.size w w2 := (Below.drewN hb0 1).trans ((hb1.mono (by simp)).trans (hb2.mono (by have := hb1.size; simp at this; omega)))
    clear ho1 hb1 hA1 hb2 hA2 HPC HPT HKP hS0
    go_wp2
    go_ret2
    exact ⟨fun h => absurd h (by rw [HE.out]; decide), fun _ => by rw [HE.out]; rfl, hB2⟩

set_option maxHeartbeats 1000000 in
set_option maxRecDepth 100000 in
theorem putLocals_any {w : World} {pv : Value} {ts : List Ty} (hT : Ts w pv ts) :
  Calls Tryz.prog 194 #[pv] w fun e w' => PutR w w' (locL ts) (locE ts) e := by
 obtain ⟨pa, pc, rfl, hp1, hp2, hp3⟩ := id hT
 unfold maxLen at hp2
 by_cases h12 : 12 < ts.length
 ·have HE : Hid (locE ts = 4) := by show _ = _; unfold locE; rw [if_pos h12]
  clear hT hp3
  go_enter Tryz.func194, Tryz.ntmps194
  go_wp2
  go_ret2
  exact ⟨fun h => absurd h (by rw [HE.out]; decide), fun _ => by rw [HE.out]; rfl, Below.refl _ _⟩
 ·have HE1 : Hid (ts.all (mayT 2) = true → locE ts = 0) := fun h => by unfold locE; rw [if_neg h12, if_pos h]
  have HE2 : Hid (ts.all (mayT 2) = false → locE ts = 17) := fun h => by unfold locE; rw [if_neg h12, if_neg (by rw [h]; simp)]
  have HPC : Hid (Calls Tryz.prog 218 #[.int .u8 7, .slice pa ts.length pc] w fun e w' => ∃ v, e = .returned v ∧ Own w' w.heap.size 5 v [7, UInt8.ofNat ts.length] ∧ Below w.heap.size w w') := putCount_any 7 (by omega) ts.length (by omega) pa pc w w.heap.size (Nat.le_refl _)
  have HT : Hid (Ts w (.slice pa ts.length pc) ts) := hT
  clear hT hp3
  go_enter Tryz.func194, Tryz.ntmps194
  go_wp2_with fail
  refine Calls.mono HPC.out ?_
  rintro e w1 ⟨v1, rfl, ho1, hb1⟩
  have HPs : Hid (Calls Tryz.prog 220 #[v1, .slice pa ts.length pc, .func (.func 221) #[] #[]] w1 fun e w' =>
    (ts.all (mayT 2) = true → ∃ v', e = .returned (.tuple #[v', .int .i64 0]) ∧ Own w' w.heap.size 5 v' ([7, UInt8.ofNat ts.length] ++ encs ts)) ∧ (ts.all (mayT 2) = false → e = .returned (.tuple #[.slice none 0 0, .int .i64 17])) ∧ Below w.heap.size w1 w' ∧ Keeps w1 w') :=
   putTypes_any rule_var ho1 hb1.size (by simp) (HT.out.later hb1) (by omega) fun hne => HT.out.lt hne
  clear ho1
  go_wp2_with fail
  refine Calls.mono HPs.out ?_
  rintro e w3 ⟨g1, g2, g3, g4⟩
  rcases hall : ts.all (mayT 2) with _ | _
  ·obtain rfl := g2 hall
   have HA : Hid (locE ts = 17) := HE2.out hall
   clear g1 g2 hall
   go_wp2
   go_ret2
   exact ⟨fun h => absurd h (by rw [HA.out]; decide), fun _ => by rw [HA.out]; rfl, hb1.trans g3⟩
  ·obtain ⟨v3, rfl, h3⟩ := g1 hall
   have HA : Hid (locE ts = 0) := HE1.out hall
   clear g1 g2 hall
   go_wp2
   go_ret2
   exact ⟨fun _ => ⟨_, rfl, by simpa [locL] using h3⟩, fun h => absurd HA.out h, hb1.trans g3⟩
/-- A type, a field, a method, an image: what they hold, and where their lists lie. -/
structure TD where
 nm : ByteArray
 fl : Int
 ex : Int
 fa : Option Addr
 fc : Nat
 fs : List Int
structure FD where
 nm : ByteArray
 ow : Int
 t : Ty
 st : Bool
structure MD where
 nm : ByteArray
 ow : Int
 fl : Int
 pa : Option Addr
 pc : Nat
 ps : List Ty
 rt : Ty
 la : Option Addr
 lc : Nat
 ls : List Ty
 mx : Int
 ca : Option Addr
 cc : Nat
 co : List Ins
 ka : Option Addr
 kc : Nat
 cl : List Cl
structure Img where
 ta : Option Addr
 tc : Nat
 ts : List TD
 fa : Option Addr
 fc : Nat
 fs : List FD
 ma : Option Addr
 mc : Nat
 ms : List MD
 en : Int

/-- The number of one of so many; from 0 to the last. -/
def numB (i : Int) (n : Nat) : Bool := decide (0 ≤ i) && decide (i < n)
def witB (i last : Int) : Bool := decide (0 ≤ i) && decide (i ≤ last)
/-- A type's number is one of so many types'. -/
def ownB (n : Nat) (t : Ty) : Bool := if t.1 = 5 ∨ t.1 = 6 then numB t.2.1 n else true
/-- As a field's type. -/
def fldB (n : Nat) (t : Ty) : Bool := mayT 1 t && ownB n t
/-- What an instruction names is there: of a code of so many, in an image of so many types, fields, methods. -/
def hasI (n nf nm len : Nat) (x : Ins) : Bool := if opP x.1 = 5 then numB x.2.1 len else if opP x.1 = 6 then numB x.2.1 nm else if opP x.1 = 7 then numB x.2.1 nf else if opP x.1 = 8 then ownB n x.2.2 else true
def fitI (x : Ins) : Int := fitE x.1 x.2.1 x.2.2.1 x.2.2.2.1 x.2.2.2.2.1 x.2.2.2.2.2
def insB (n nf nm len : Nat) (x : Ins) : Bool := decide (fitI x = 0) && hasI n nf nm len x
def catB (n : Nat) (c : Cl) : Bool := if c.k = 1 then fldB n (c.t0, c.t1, c.t2, c.t3) else c.t0 == 0 && c.t1 == 0 && c.t2 == 0 && !c.t3
def rgtB (n : Int) (l : List Cl) : Bool := @decide (RightL n l) (by unfold RightL; exact inferInstance)
/-- Rising, or staying. -/
def risB : List Int → Bool
 | a :: b :: r => decide (a ≤ b) && risB (b :: r)
 | _ => true
def tdB (n : Nat) (x : TD) : Bool := fineB x.nm.data.toList && witB x.fl 31 && (decide (x.ex = -1) || numB x.ex n) && decide (x.fs.length ≤ 4) && x.fs.all (fun i => numB i n)
def fdB (n : Nat) (x : FD) : Bool := fineB x.nm.data.toList && numB x.ow n && fldB n x.t
def mdB (n nf nm : Nat) (x : MD) : Bool :=
 fineB x.nm.data.toList && numB x.ow n && witB x.fl 31 && witB x.mx 12 && (decide (sigE x.ps x.rt = 0) && ownB n x.rt && x.ps.all (ownB n)) && (decide (locE x.ls = 0) && x.ls.all (ownB n)) &&
  (decide (x.co.length ≤ 160) && x.co.all (insB n nf nm x.co.length)) && (rgtB x.co.length x.cl && x.cl.all (catB n))
/-- An image is formed. -/
def imB (g : Img) : Bool :=
 decide (g.ts.length ≤ 32) && decide (g.fs.length ≤ 64) && decide (g.ms.length ≤ 64) && g.ts.all (tdB g.ts.length) && (g.fs.all (fdB g.ts.length) && risB (g.fs.map (·.ow))) &&
  (g.ms.all (mdB g.ts.length g.fs.length g.ms.length) && risB (g.ms.map (·.ow))) && (decide (g.en = -1) || numB g.en g.ms.length)

theorem ris_iff : ∀ l : List Int, risB l = true ↔ ∀ i (h : i + 1 < l.length), l[i] ≤ l[i + 1]
 | [] => by simp [risB]
 | [a] => by simp [risB]
 | a :: b :: r => by
  have ih := ris_iff (b :: r)
  simp only [risB, Bool.and_eq_true, decide_eq_true_eq, ih]
  constructor
  ·rintro ⟨h1, h2⟩ i hi
   cases i with
   | zero => simpa using h1
   | succ j => exact h2 j (by simpa using hi)
  ·intro h
   exact ⟨h 0 (by simp), fun i hi => h (i + 1) (by simpa using hi)⟩
end Go.Proofs.YthpmpdpfnlecmaaGreat
