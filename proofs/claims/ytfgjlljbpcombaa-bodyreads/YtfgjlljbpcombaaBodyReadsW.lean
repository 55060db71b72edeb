
/- The walk of BodyReads. -/
import Derived.Test.YtfgjlljbpcombaaRefRead8
import Derived.Test.YtfgjlljbpcombaaRefSame8
import Derived.Test.YtfgjlljbpcombaaReads8
namespace Go.Proofs.Ytfgjlljbpcombaa
set_option linter.unusedVariables false
set_option linter.unusedSimpArgs false
open Go.RowKit
attribute [local go_sem ↓] Go.wp_at_zero Go.wp_at_succ

/-- Both answer alike: the error and nothing, or the body and its place. -/
theorem both_read {w : World} {v v2 : Value} {bs : List UInt8} (at_ : Int) (hl : bs.length ≤ 2000) (hv : Bs w v bs) (hv2 : Bs w v2 bs) :
    ∃ (E T : Int) (C : List UInt8) (K : List Rw), (∀ W, Below w.heap.size w W → Calls Try.prog 15 #[v, .int .i64 at_] W fun e w' => (∃ ca cc ka kc, e = .returned (.tuple #[.agg #[.slice ca C.length cc, .slice ka K.length kc], .int .i64 T, .int .i64 E]) ∧ Bs w' (.slice ca C.length cc) C ∧ Ws w' (.slice ka K.length kc) K) ∧ Below W.heap.size W w') ∧
      (∀ W, Below w.heap.size w W → Calls Try.prog 16 #[v2, .int .i64 at_] W fun e w' => (∃ ca cc ka kc, e = .returned (.agg #[.slice ca C.length cc, .slice ka K.length kc, .int .i64 T, .int .i64 E]) ∧ Bs w' (.slice ca C.length cc) C ∧ Ws w' (.slice ka K.length kc) K) ∧ Below W.heap.size W w') := by
  by_cases hr : at_ < 0 ∨ (bs.length : Int) < at_
  · refine ⟨3, 0, [], [], fun W hW => ?_, fun W hW => ?_⟩
    · have hlen := hv.len
      obtain ⟨xa, cx, rfl, _, _, _⟩ := hv
      refine (read_range xa bs.length cx hlen at_ hr).mono ?_
      rintro e w' ⟨rfl, h⟩
      exact ⟨⟨none, 0, none, 0, rfl, Bs.nil _, Ws.nil _⟩, h⟩
    · have hlen := hv2.len
      obtain ⟨xa, cx, rfl, _, _, _⟩ := hv2
      refine (refRead_range xa bs.length cx hlen at_ hr).mono ?_
      rintro e w' ⟨rfl, h⟩
      exact ⟨⟨none, 0, none, 0, rfl, Bs.nil _, Ws.nil _⟩, h⟩
  · obtain ⟨a, rfl⟩ := Int.eq_ofNat_of_zero_le (show 0 ≤ at_ by omega)
    have ha : a ≤ bs.length := by omega
    by_cases hE : (rdS (bs.drop a) (decide (a % 4 = 0))).2 = 0
    · refine ⟨0, ((a + (rdS (bs.drop a) (decide (a % 4 = 0))).1 : Nat) : Int), rdC (bs.drop a) (decide (a % 4 = 0)), rdK (bs.drop a) (decide (a % 4 = 0)), fun W hW => ?_, fun W hW => ?_⟩
      · refine (read_at (hv.later hW) (by omega) a ha).mono ?_
        rintro e w' ⟨_, hyes, hb⟩
        obtain ⟨cv, kv, rfl, hc, hk⟩ := hyes hE
        obtain ⟨ca, cc, rfl, _, _⟩ := hc.shape
        obtain ⟨ka, kc, rfl, _, _⟩ := hk.shape
        exact ⟨⟨ca, cc, ka, kc, rfl, hc, hk⟩, hb⟩
      · refine (refRead_at (hv2.later hW) hl a ha).mono ?_
        rintro e w' ⟨_, hyes, hb⟩
        obtain ⟨cv, kv, rfl, hc, hk⟩ := hyes hE
        obtain ⟨ca, cc, rfl, _, _⟩ := hc.shape
        obtain ⟨ka, kc, rfl, _, _⟩ := hk.shape
        exact ⟨⟨ca, cc, ka, kc, rfl, hc, hk⟩, hb⟩
    · refine ⟨(rdS (bs.drop a) (decide (a % 4 = 0))).2, 0, [], [], fun W hW => ?_, fun W hW => ?_⟩
      · refine (read_at (hv.later hW) (by omega) a ha).mono ?_
        rintro e w' ⟨hno, _, hb⟩
        exact ⟨⟨none, 0, none, 0, hno hE, Bs.nil _, Ws.nil _⟩, hb⟩
      · refine (refRead_at (hv2.later hW) hl a ha).mono ?_
        rintro e w' ⟨hno, _, hb⟩
        exact ⟨⟨none, 0, none, 0, hno hE, Bs.nil _, Ws.nil _⟩, hb⟩

set_option maxHeartbeats 1000000 in
set_option maxRecDepth 100000 in
theorem bodyReads_walk (v : Value) (bs : List UInt8) (at_ : Int) (w : World) (hv : Bs w v bs) (hz : bs.length ≤ 140737488351232) (hat : (Lit.int .i64 at_).wf = true) :
    Calls Try.prog 4 #[v, .int .i64 at_] w fun e w' => e = .returned (.bool true) ∧ Below w.heap.size w w' := by
  have HV : Hid (Bs w v bs) := hv
  obtain ⟨xa, cx, rfl, q1, q2, q3⟩ := hv
  clear q1 q2 q3 hat
  go_enter Try.func4, Try.ntmps4
  go_wp2_with fail
  refine (wakes8_any _).mono ?_
  rintro e w1 ⟨rfl, h1⟩
  have HV1 : Hid (Bs w1 (.slice xa bs.length cx) bs) := HV.out.later h1
  have HB1 : Hid (Below w.heap.size w w1) := h1
  clear h1 HV
  by_cases hlong : 2000 < bs.length
  · have i1 : (2000 : Int) < (bs.length : Int) := by omega
    go_wp2
    go_ret
    exact ⟨rfl, HB1.out⟩
  · have i1 : (bs.length : Int) ≤ 2000 := by omega
    have hl2 : bs.length ≤ 2000 := by omega
    go_wp2_with (at_builtin; go_must (refine wpList_append_bs rfl _ _ _ rfl (w1.heap.size) 5 Try.underlying22 Try.infoU8 rfl rfl (Own.lit w1 w1.heap.size 5 [] #[] 0 (Nat.le_refl _) rfl rfl (by decide)) (HV1.out.later ((Below.refl _ _).alloc (Nat.le_refl _) _)) (by simp; omega) (by simp) ?_))
    intro v2 w2 ho2 hg2
    obtain ⟨hO, hB, -, -⟩ := copied ho2 hg2
    have hV2 : Bs w2 (.slice xa bs.length cx) bs := HV1.out.later hB
    have hB2 : Below w.heap.size w w2 := HB1.out.trans (hB.mono HB1.out.size)
    obtain ⟨E, T, C, K, hP, hR⟩ := both_read at_ hl2 hO hV2
    have HP : Hid (Calls Try.prog 15 #[v2, .int .i64 at_] w2 fun e w' => (∃ ca cc ka kc, e = .returned (.tuple #[.agg #[.slice ca C.length cc, .slice ka K.length kc], .int .i64 T, .int .i64 E]) ∧ Bs w' (.slice ca C.length cc) C ∧ Ws w' (.slice ka K.length kc) K) ∧ Below w2.heap.size w2 w') := hP w2 (Below.refl _ _)
    have HR : Hid (∀ W, Below w2.heap.size w2 W → Calls Try.prog 16 #[.slice xa bs.length cx, .int .i64 at_] W fun e w' => (∃ ca cc ka kc, e = .returned (.agg #[.slice ca C.length cc, .slice ka K.length kc, .int .i64 T, .int .i64 E]) ∧ Bs w' (.slice ca C.length cc) C ∧ Ws w' (.slice ka K.length kc) K) ∧ Below W.heap.size W w') := hR
    have HB2 : Hid (Below w.heap.size w w2) := hB2
    clear ho2 hg2 hO hB hV2 hB2 hP hR
    go_wp2_with fail
    refine Calls.mono HP.out ?_
    rintro e w3 ⟨⟨ca, cc, ka, kc, rfl, hc3, hk3⟩, hb3⟩
    clear HP
    have hb4 : Below w3.heap.size w3 (w3.alloc (.cells #[.slice ca C.length cc, .slice ka K.length kc] 25)) := (Below.refl _ _).alloc (Nat.le_refl _) _
    have hA4 : At (w3.alloc (.cells #[.slice ca C.length cc, .slice ka K.length kc] 25)) w3.heap.size #[.slice ca C.length cc, .slice ka K.length kc] 25 := At.made _ _ _
    have HR4 : Hid (Calls Try.prog 16 #[.slice xa bs.length cx, .int .i64 at_] (w3.alloc (.cells #[.slice ca C.length cc, .slice ka K.length kc] 25)) fun e w' => ∃ ca' cc' ka' kc', e = .returned (.agg #[.slice ca' C.length cc', .slice ka' K.length kc', .int .i64 T, .int .i64 E]) ∧ Bs w' (.slice ca' C.length cc') C ∧ Ws w' (.slice ka' K.length kc') K ∧ Bs w' (.slice ca C.length cc) C ∧ Ws w' (.slice ka K.length kc) K ∧ At w' w3.heap.size #[.slice ca C.length cc, .slice ka K.length kc] 25 ∧ Below w.heap.size w w') := by
      have hbb : Below w2.heap.size w2 (w3.alloc (.cells #[.slice ca C.length cc, .slice ka K.length kc] 25)) := hb3.trans (hb4.mono hb3.size)
      refine (HR.out _ hbb).mono ?_
      rintro e w' ⟨⟨ca', cc', ka', kc', rfl, m1, m2⟩, m3⟩
      exact ⟨ca', cc', ka', kc', rfl, m1, m2, (hc3.later hb4).later m3, (hk3.later hb4).later m3, hA4.later m3, HB2.out.trans ((hbb.mono HB2.out.size).trans (m3.mono (Nat.le_trans HB2.out.size hbb.size)))⟩
    obtain ⟨cl, hcl⟩ : ∃ n, n = C.length := ⟨_, rfl⟩
    obtain ⟨kl, hkl⟩ : ∃ n, n = K.length := ⟨_, rfl⟩
    rw [← hcl, ← hkl] at HR4 ⊢
    clear hc3 hk3 hb3 hb4 hA4 HR hcl hkl
    go_wp2_with fail
    refine Calls.mono HR4.out ?_
    rintro e w5 ⟨ca', cc', ka', kc', rfl, m1, m2, m3, m4, m5, m6⟩
    clear HR4
    have hb5 : Below w5.heap.size w5 (w5.alloc (.cells #[.slice ca' cl cc', .slice ka' kl kc', .int .i64 T, .int .i64 E] 39)) := (Below.refl _ _).alloc (Nat.le_refl _) _
    have t5 := (m5.later hb5).cell
    have t6 := (At.made w5 #[.slice ca' cl cc', .slice ka' kl kc', .int .i64 T, .int .i64 E] 39).cell
    have HS : Hid (Calls Try.prog 14 #[.agg #[.slice ca cl cc, .slice ka kl kc], .agg #[.slice ca' cl cc', .slice ka' kl kc']] (w5.alloc (.cells #[.slice ca' cl cc', .slice ka' kl kc', .int .i64 T, .int .i64 E] 39)) fun e w' => e = .returned (.bool true) ∧ Below w.heap.size w w' ∧ At w' w5.heap.size #[.slice ca' cl cc', .slice ka' kl kc', .int .i64 T, .int .i64 E] 39) := by
      refine (refSame8_yes (m3.later hb5) (m1.later hb5) (m4.later hb5) (m2.later hb5)).mono ?_
      rintro e w' ⟨rfl, h⟩
      exact ⟨rfl, m6.trans ((hb5.mono m6.size).trans (h.mono (Nat.le_trans m6.size hb5.size))), (At.made _ _ _).later h⟩
    have hT : (T == T) = true := by simp
    have hEE : (E == E) = true := by simp
    clear m1 m2 m3 m4 m5 m6 hb5
    go_wp2_with fail
    refine Calls.mono HS.out ?_
    rintro e w6 ⟨rfl, h6, hA6⟩
    have t7 := hA6.cell
    clear HS hA6
    go_wp2
    go_ret
    exact ⟨rfl, h6⟩

end Go.Proofs.Ytfgjlljbpcombaa
