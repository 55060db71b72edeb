/- one of layer 1's statements: whatever is done to a reader is what the document says. -/
import Derived.Test.YthghgagkkjnmhaaRefUnpack
import Derived.Test.YthghgagkkjnmhaaSame
namespace Go.Proofs.Ythghgagkkjnmhaa
set_option linter.unusedVariables false
set_option linter.unusedSimpArgs false
open Go.RowKit

/-- The act lies in a block of its own. -/
def ActIn (w : World) (g : Nat) (kind n : Int) : Prop := w.cell? ⟨g, 0, none⟩ = some (.int .i64 kind) ∧ w.cell? ⟨g, 1, none⟩ = some (.int .i64 n)

theorem act_new (w : World) (kind n : Int) : ActIn (w.alloc (.cells #[.int .i64 kind, .int .i64 n] 28)) w.heap.size kind n := by
  constructor <;> rw [World.cell?_alloc_at _ _ _ _ rfl] <;> rfl

theorem ActIn.only {w w' : World} {g rb : Nat} {kind n : Int} (h : ActIn w g kind n) (ho : Only rb w w') (hg : g ≠ rb) (hl : g < w.heap.size) : ActIn w' g kind n :=
  ⟨by rw [World.cell?_of_block (w := w) (ho.block g hl hg)]; exact h.1, by rw [World.cell?_of_block (w := w) (ho.block g hl hg)]; exact h.2⟩

set_option maxRecDepth 100000 in
set_option maxHeartbeats 1000000 in
theorem one_num {w : World} {rb : Nat} {bs : List UInt8} {at_ : Nat} {a : Option Addr} {cap : Nat} (h : RdAt w rb bs at_) (hv : Bs w (.slice a bs.length cap) bs) (hk : bs ≠ [] → (Value.slice a bs.length cap).ownBlock ≠ some rb) (n : Int) :
    Calls Try.prog 10 #[.pointer (some ⟨rb, 0, none⟩), .slice a bs.length cap, .int .i64 (at_ : Int), .agg #[.int .i64 0, .int .i64 n]] w fun e w' =>
      ∃ m : Nat, e = .returned (.tuple #[.int .i64 (m : Int), .bool true]) ∧ RdAt w' rb bs (at_ + m) ∧ Only rb w w' := by
  have hlt := h.lt
  have hle := h.le
  have hsm := h.small
  have hb0 : Below w.heap.size w (w.alloc (.cells #[.int .i64 0, .int .i64 n] 28)) := (Below.refl _ _).alloc (Nat.le_refl _) _
  have HR0 : Hid (RdAt (w.alloc (.cells #[.int .i64 0, .int .i64 n] 28)) rb bs at_) := h.only hb0
  have HV0 : Hid (Bs (w.alloc (.cells #[.int .i64 0, .int .i64 n] 28)) (.slice a bs.length cap) bs) := hv.later hb0
  have HO0 : Hid (Only rb w (w.alloc (.cells #[.int .i64 0, .int .i64 n] 28))) := Only.of_below hb0
  have HA0 := act_new w 0 n
  have HK : Hid (bs ≠ [] → (Value.slice a bs.length cap).ownBlock ≠ some rb) := hk
  clear h hv hb0 hk
  by_cases hw : wideB n = true
  · by_cases hs : (bs.length : Int) - at_ < n
    · go_enter Try.func10, Try.ntmps10
      go_wp2_with fail
      refine (num_short HR0.out n hw hs).mono ?_
      rintro e w1 ⟨rfl, m1, rfl⟩
      go_wp2_with (go_at_call 14; refine (wide_any _ _).mono ?_; rintro e wz ⟨rfl, hz⟩; subst wz)
      go_ret2
      exact ⟨0, rfl, HR0.out.drewN _, HO0.out.drewN _⟩
    · have hc := wide_cases hw
      obtain ⟨m, rfl⟩ := Int.eq_ofNat_of_zero_le (show 0 ≤ n by omega)
      have hm8 : 1 ≤ m ∧ m ≤ 8 := by omega
      clear hc
      go_enter Try.func10, Try.ntmps10
      go_wp2_with fail
      refine (num_yes HR0.out m hw (by omega) (by omega) (by omega)).mono ?_
      rintro e w1 ⟨rfl, hr1, ho1⟩
      obtain ⟨ha1, ha2⟩ := HA0.only ho1 (by omega) (by simp)
      have HV1 : Hid (Bs w1 (.slice a bs.length cap) bs) := HV0.out.only ho1 HK.out
      have HR1 : Hid (RdAt w1 rb bs (at_ + m)) := hr1
      have HO1 : Hid (Only rb w w1) := HO0.out.trans ho1
      clear hr1 ho1
      have HN : Hid (∀ x, Calls Try.prog 27 #[.slice a bs.length cap, .int .i64 (at_ : Int), .int .i64 (m : Int)] (w1.drewN x) fun e w' => e = .returned (.int .u64 (leN (seg bs at_ m) : Int)) ∧ w' = w1.drewN x) :=
        fun x => refNum_any (HV1.out.drewN x) at_ m (by omega) (by omega) (by omega)
      generalize leN (seg bs at_ m) = y at *
      go_wp2_with (go_at_call 14; refine (wide_any _ _).mono ?_; rintro e wz ⟨rfl, hz⟩; subst wz)
      go_quiet ((go_at_call 27; go_must (exact Calls.quiet_of_same (HN.out _))))
      go_wp2
      go_ret2
      exact ⟨m, rfl, HR1.out.drewN _, HO1.out.drewN _⟩
  · have hw' : wideB n = false := by simpa using hw
    clear hw
    go_enter Try.func10, Try.ntmps10
    go_wp2_with fail
    refine (num_arg HR0.out n hw').mono ?_
    rintro e wz ⟨rfl, hz⟩
    subst wz
    go_wp2_with (go_at_call 14; refine (wide_any _ _).mono ?_; rintro e wz ⟨rfl, hz⟩; subst wz)
    go_ret2
    exact ⟨0, rfl, HR0.out, HO0.out⟩

set_option maxRecDepth 100000 in
set_option maxHeartbeats 1000000 in
theorem one_packed {w : World} {rb : Nat} {bs : List UInt8} {at_ : Nat} {a : Option Addr} {cap : Nat} (h : RdAt w rb bs at_) (hv : Bs w (.slice a bs.length cap) bs) (hk : bs ≠ [] → (Value.slice a bs.length cap).ownBlock ≠ some rb) (n : Int) :
    Calls Try.prog 10 #[.pointer (some ⟨rb, 0, none⟩), .slice a bs.length cap, .int .i64 (at_ : Int), .agg #[.int .i64 1, .int .i64 n]] w fun e w' =>
      ∃ m : Nat, e = .returned (.tuple #[.int .i64 (m : Int), .bool true]) ∧ RdAt w' rb bs (at_ + m) ∧ Only rb w w' := by
  have hlt := h.lt
  have hle := h.le
  have hsm := h.small
  have hb0 : Below w.heap.size w (w.alloc (.cells #[.int .i64 1, .int .i64 n] 28)) := (Below.refl _ _).alloc (Nat.le_refl _) _
  have HR0 : Hid (RdAt (w.alloc (.cells #[.int .i64 1, .int .i64 n] 28)) rb bs at_) := h.only hb0
  have HV0 : Hid (Bs (w.alloc (.cells #[.int .i64 1, .int .i64 n] 28)) (.slice a bs.length cap) bs) := hv.later hb0
  have HO0 : Hid (Only rb w (w.alloc (.cells #[.int .i64 1, .int .i64 n] 28))) := Only.of_below hb0
  have HK : Hid (bs ≠ [] → (Value.slice a bs.length cap).ownBlock ≠ some rb) := hk
  clear h hv hb0 hk
  go_enter Try.func10, Try.ntmps10
  go_wp2_with fail
  refine (packed_any HR0.out).mono ?_
  rintro e w1 ⟨rfl, hr1, ho1⟩
  have HV1 : Hid (Bs w1 (.slice a bs.length cap) bs) := HV0.out.only ho1 HK.out
  have HR1 : Hid (RdAt w1 rb bs (at_ + (unp bs at_).2.1)) := hr1
  have HO1 : Hid (Only rb w w1) := HO0.out.trans ho1
  have hs1 := ho1.size
  clear hr1 ho1
  go_wp2_with fail
  refine (unpack_any HV1.out at_ hle).mono ?_
  rintro e w2 ⟨rfl, hb2⟩
  have hs2 := hb2.size
  have HR2 : Hid (RdAt w2 rb bs (at_ + (unp bs at_).2.1)) := HR1.out.only hb2
  have HO2 : Hid (Only rb w w2) := HO1.out.trans (Only.of_below hb2)
  clear hb2
  by_cases he : (unp bs at_).2.2 = 0
  · rw [he]
    clear he
    generalize (unp bs at_).1 = x at *
    generalize (unp bs at_).2.1 = m at *
    go_wp2
    go_ret2
    exact ⟨m, rfl, HR2.out.only ((Below.refl _ _).alloc (Nat.le_refl _) _), HO2.out.alloc _⟩
  · obtain ⟨e1, e2⟩ := unp_err bs at_ he
    rw [e1, e2]
    rw [e2] at HR2
    have hne : (((unp bs at_).2.2 : Int) != 0) = true := by rw [bne_iff_ne]; omega
    clear e1 e2 he HR1
    generalize (unp bs at_).2.2 = c at *
    go_wp2
    go_quiet (fail)
    go_wp2
    go_ret2
    exact ⟨0, rfl, (HR2.out.only ((Below.refl _ _).alloc (Nat.le_refl _) _)).drewN _, (HO2.out.alloc _).drewN _⟩

set_option maxRecDepth 100000 in
set_option maxHeartbeats 1000000 in
theorem one_done {w : World} {rb : Nat} {bs : List UInt8} {at_ : Nat} {a : Option Addr} {cap : Nat} (h : RdAt w rb bs at_) (kind n : Int) (k0 : (kind == 0) = false) (k1 : (kind == 1) = false) (k2 : (kind == 2) = false) (k3 : (kind == 3) = false) :
    Calls Try.prog 10 #[.pointer (some ⟨rb, 0, none⟩), .slice a bs.length cap, .int .i64 (at_ : Int), .agg #[.int .i64 kind, .int .i64 n]] w fun e w' =>
      ∃ m : Nat, e = .returned (.tuple #[.int .i64 (m : Int), .bool true]) ∧ RdAt w' rb bs (at_ + m) ∧ Only rb w w' := by
  have hle := h.le
  have hsm := h.small
  have hb0 : Below w.heap.size w (w.alloc (.cells #[.int .i64 kind, .int .i64 n] 28)) := (Below.refl _ _).alloc (Nat.le_refl _) _
  have HR0 : Hid (RdAt (w.alloc (.cells #[.int .i64 kind, .int .i64 n] 28)) rb bs at_) := h.only hb0
  have HO0 : Hid (Only rb w (w.alloc (.cells #[.int .i64 kind, .int .i64 n] 28))) := Only.of_below hb0
  clear h hb0
  by_cases hl : at_ < bs.length
  · go_enter Try.func10, Try.ntmps10
    go_wp2_with fail
    refine (done_any HR0.out).mono ?_
    rw [if_pos hl]
    rintro e w1 ⟨rfl, m1, rfl⟩
    go_wp2
    go_ret2
    exact ⟨0, rfl, HR0.out.drewN _, HO0.out.drewN _⟩
  · go_enter Try.func10, Try.ntmps10
    go_wp2_with fail
    refine (done_any HR0.out).mono ?_
    rw [if_neg hl]
    rintro e w1 ⟨rfl, m1, rfl⟩
    go_wp2
    go_ret2
    exact ⟨0, rfl, HR0.out.drewN _, HO0.out.drewN _⟩

set_option maxRecDepth 100000 in
set_option maxHeartbeats 1000000 in
theorem one_skip {w : World} {rb : Nat} {bs : List UInt8} {at_ : Nat} {a : Option Addr} {cap : Nat} (h : RdAt w rb bs at_) (hv : Bs w (.slice a bs.length cap) bs) (hk : bs ≠ [] → (Value.slice a bs.length cap).ownBlock ≠ some rb) (n : Int) :
    Calls Try.prog 10 #[.pointer (some ⟨rb, 0, none⟩), .slice a bs.length cap, .int .i64 (at_ : Int), .agg #[.int .i64 3, .int .i64 n]] w fun e w' =>
      ∃ m : Nat, e = .returned (.tuple #[.int .i64 (m : Int), .bool true]) ∧ RdAt w' rb bs (at_ + m) ∧ Only rb w w' := by
  have hlt := h.lt
  have hle := h.le
  have hsm := h.small
  have hb0 : Below w.heap.size w (w.alloc (.cells #[.int .i64 3, .int .i64 n] 28)) := (Below.refl _ _).alloc (Nat.le_refl _) _
  have HR0 : Hid (RdAt (w.alloc (.cells #[.int .i64 3, .int .i64 n] 28)) rb bs at_) := h.only hb0
  have HV0 : Hid (Bs (w.alloc (.cells #[.int .i64 3, .int .i64 n] 28)) (.slice a bs.length cap) bs) := hv.later hb0
  have HO0 : Hid (Only rb w (w.alloc (.cells #[.int .i64 3, .int .i64 n] 28))) := Only.of_below hb0
  have HA0 := act_new w 3 n
  have HK : Hid (bs ≠ [] → (Value.slice a bs.length cap).ownBlock ≠ some rb) := hk
  clear h hv hb0 hk
  by_cases h0 : n < 0
  · have e1 : skipE bs.length at_ n = 3 := by unfold skipE; rw [if_pos h0]
    have e2 : skipN bs.length at_ n = 0 := by unfold skipN; rw [if_pos h0]
    go_enter Try.func10, Try.ntmps10
    go_wp2_with fail
    refine (skip_any HR0.out n).mono ?_
    rw [e1, e2]
    clear e1 e2
    rintro e w1 ⟨rfl, hr1, ho1⟩
    obtain ⟨ha1, ha2⟩ := HA0.only ho1 (by omega) (by simp)
    have HR1 : Hid (RdAt w1 rb bs (at_ + 0)) := hr1
    have HO1 : Hid (Only rb w w1) := HO0.out.trans ho1
    clear hr1 ho1
    go_wp2
    go_ret2
    exact ⟨0, rfl, HR1.out, HO1.out⟩
  · by_cases h1 : (bs.length : Int) - at_ < n
    · have e1 : skipE bs.length at_ n = 1 := by unfold skipE; rw [if_neg h0, if_pos h1]
      have e2 : skipN bs.length at_ n = 0 := by unfold skipN; rw [if_neg h0, if_pos h1]
      go_enter Try.func10, Try.ntmps10
      go_wp2_with fail
      refine (skip_any HR0.out n).mono ?_
      rw [e1, e2]
      clear e1 e2
      rintro e w1 ⟨rfl, hr1, ho1⟩
      obtain ⟨ha1, ha2⟩ := HA0.only ho1 (by omega) (by simp)
      have HR1 : Hid (RdAt w1 rb bs (at_ + 0)) := hr1
      have HO1 : Hid (Only rb w w1) := HO0.out.trans ho1
      clear hr1 ho1
      go_wp2
      go_ret2
      exact ⟨0, rfl, HR1.out, HO1.out⟩
    · obtain ⟨m, rfl⟩ := Int.eq_ofNat_of_zero_le (show 0 ≤ n by omega)
      have e1 : skipE bs.length at_ (m : Int) = 0 := by unfold skipE; rw [if_neg h0, if_neg h1]
      have e2 : skipN bs.length at_ (m : Int) = m := by unfold skipN; rw [if_neg h0, if_neg h1]; omega
      go_enter Try.func10, Try.ntmps10
      go_wp2_with fail
      refine (skip_any HR0.out (m : Int)).mono ?_
      rw [e1, e2]
      clear e1 e2
      rintro e w1 ⟨rfl, hr1, ho1⟩
      obtain ⟨ha1, ha2⟩ := HA0.only ho1 (by omega) (by simp)
      have HR1 : Hid (RdAt w1 rb bs (at_ + m)) := hr1
      have HO1 : Hid (Only rb w w1) := HO0.out.trans ho1
      clear hr1 ho1
      go_wp2
      go_quiet (fail)
      go_wp2
      go_ret2
      exact ⟨m, rfl, HR1.out.drewN _, HO1.out.drewN _⟩

set_option maxRecDepth 100000 in
set_option maxHeartbeats 1000000 in
theorem one_take {w : World} {rb : Nat} {bs : List UInt8} {at_ : Nat} {a : Option Addr} {cap : Nat} (h : RdAt w rb bs at_) (hv : Bs w (.slice a bs.length cap) bs) (hk : bs ≠ [] → (Value.slice a bs.length cap).ownBlock ≠ some rb) (n : Int) :
    Calls Try.prog 10 #[.pointer (some ⟨rb, 0, none⟩), .slice a bs.length cap, .int .i64 (at_ : Int), .agg #[.int .i64 2, .int .i64 n]] w fun e w' =>
      ∃ m : Nat, e = .returned (.tuple #[.int .i64 (m : Int), .bool true]) ∧ RdAt w' rb bs (at_ + m) ∧ Only rb w w' := by
  have hlt := h.lt
  have hle := h.le
  have hsm := h.small
  have hb0 : Below w.heap.size w (w.alloc (.cells #[.int .i64 2, .int .i64 n] 28)) := (Below.refl _ _).alloc (Nat.le_refl _) _
  have HR0 : Hid (RdAt (w.alloc (.cells #[.int .i64 2, .int .i64 n] 28)) rb bs at_) := h.only hb0
  have HV0 : Hid (Bs (w.alloc (.cells #[.int .i64 2, .int .i64 n] 28)) (.slice a bs.length cap) bs) := hv.later hb0
  have HO0 : Hid (Only rb w (w.alloc (.cells #[.int .i64 2, .int .i64 n] 28))) := Only.of_below hb0
  have HA0 := act_new w 2 n
  have HK : Hid (bs ≠ [] → (Value.slice a bs.length cap).ownBlock ≠ some rb) := hk
  clear h hv hb0 hk
  by_cases h0 : n < 0
  · have e1 : skipE bs.length at_ n = 3 := by unfold skipE; rw [if_pos h0]
    go_enter Try.func10, Try.ntmps10
    go_wp2_with fail
    refine (take_no HR0.out n 3 e1 (by decide)).mono ?_
    clear e1
    rintro e w1 ⟨rfl, hr1, ho1⟩
    obtain ⟨ha1, ha2⟩ := HA0.only ho1 (by omega) (by simp)
    have HR1 : Hid (RdAt w1 rb bs (at_ + 0)) := hr1
    have HO1 : Hid (Only rb w w1) := HO0.out.trans ho1
    clear hr1 ho1
    go_wp2
    go_ret2
    exact ⟨0, rfl, HR1.out, HO1.out⟩
  · by_cases h1 : (bs.length : Int) - at_ < n
    · have e1 : skipE bs.length at_ n = 1 := by unfold skipE; rw [if_neg h0, if_pos h1]
      go_enter Try.func10, Try.ntmps10
      go_wp2_with fail
      refine (take_no HR0.out n 1 e1 (by decide)).mono ?_
      clear e1
      rintro e w1 ⟨rfl, hr1, ho1⟩
      obtain ⟨ha1, ha2⟩ := HA0.only ho1 (by omega) (by simp)
      have HR1 : Hid (RdAt w1 rb bs (at_ + 0)) := hr1
      have HO1 : Hid (Only rb w w1) := HO0.out.trans ho1
      clear hr1 ho1
      go_wp2
      go_ret2
      exact ⟨0, rfl, HR1.out, HO1.out⟩
    · obtain ⟨m, rfl⟩ := Int.eq_ofNat_of_zero_le (show 0 ≤ n by omega)
      go_enter Try.func10, Try.ntmps10
      go_wp2_with fail
      refine (take_any HR0.out m (by omega)).mono ?_
      rintro e w1 ⟨v1, rfl, hv1, hr1, ho1⟩
      obtain ⟨ha1, ha2⟩ := HA0.only ho1 (by omega) (by simp)
      have HR1 : Hid (RdAt w1 rb bs (at_ + m)) := hr1
      have HO1 : Hid (Only rb w w1) := HO0.out.trans ho1
      obtain ⟨a', cap', hsl, hBt, _⟩ := slice_bs (P := Try.prog) (HV0.out.only ho1 HK.out) at_ m (by omega) 22 5 Try.underlying22 sizeU8
      have HS : Hid (∀ x, Calls Try.prog 15 #[v1, .slice a' m cap'] (w1.drewN x) fun e w' => e = .returned (.bool true) ∧ ∃ y, w' = (w1.drewN x).drewN y) := by
        intro x
        refine (same_any (hv1.drewN x) (hBt.drewN x)).mono ?_
        rw [show decide (seg bs at_ m = seg bs at_ m) = true from by simp]
        exact fun _ _ h => h
      clear hr1 ho1 hv1 hBt
      go_wp2
      go_quiet ((go_at_call 15; go_must (exact Calls.quiet_of (HS.out _))))
      go_wp2
      go_ret2
      exact ⟨m, rfl, HR1.out.drewN _, HO1.out.drewN _⟩

theorem one_any {w : World} {rb : Nat} {bs : List UInt8} {at_ : Nat} {v : Value} (h : RdAt w rb bs at_) (hv : Bs w v bs) (hk : bs ≠ [] → v.ownBlock ≠ some rb) (kind n : Int) :
    Calls Try.prog 10 #[.pointer (some ⟨rb, 0, none⟩), v, .int .i64 (at_ : Int), .agg #[.int .i64 kind, .int .i64 n]] w fun e w' =>
      ∃ m : Nat, e = .returned (.tuple #[.int .i64 (m : Int), .bool true]) ∧ RdAt w' rb bs (at_ + m) ∧ Only rb w w' := by
  have hv0 := hv
  obtain ⟨a, cap, rfl, _⟩ := hv
  by_cases h0 : kind = 0
  · subst h0; exact one_num h hv0 hk n
  by_cases h1 : kind = 1
  · subst h1; exact one_packed h hv0 hk n
  by_cases h2 : kind = 2
  · subst h2; exact one_take h hv0 hk n
  by_cases h3 : kind = 3
  · subst h3; exact one_skip h hv0 hk n
  exact one_done h kind n (by simp [h0]) (by simp [h1]) (by simp [h2]) (by simp [h3])

end Go.Proofs.Ythghgagkkjnmhaa
