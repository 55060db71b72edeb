
/- The walk of BodyOne. -/
import Derived.Test.YtfgjlljbpcombaaLaws8
import Derived.Test.YtfgjlljbpcombaaReads8
import Derived.Test.YtfgjlljbpcombaaBodyBack8
import Derived.Test.YtfgjlljbpcombaaSame
namespace Go.Proofs.Ytfgjlljbpcombaa
set_option linter.unusedVariables false
set_option linter.unusedSimpArgs false
open Go.RowKit
attribute [local go_sem ↓] Go.wp_at_zero Go.wp_at_succ

theorem slice_to8 {P : Program} {w : World} {a : Option Addr} {cap : Nat} {bs : List UInt8} (hv : Bs w (.slice a bs.length cap) bs) (n : Nat) (h : n ≤ bs.length) (t e : TypeId) (ht : P.underlying t = some (.slice e)) (hs : (P.info? e).map (·.size) = some 1) :
    ∃ a' cap', (∀ (W : World) (k2 : IntKind), (Instr.slice t (.slice a bs.length cap) none (some (.int k2 (n : Int))) none).run P W = .ok (.slice a' n cap') W) ∧ Bs w (.slice a' n cap') (bs.take n) := by
  obtain ⟨a', cap', h1, h2, h3⟩ := slice_bs (P := P) hv 0 n (by omega) t e ht hs
  refine ⟨a', cap', fun W k2 => ?_, by rw [← seg_zero8]; exact h2⟩
  have := h1 W .i64 k2
  rw [show ((0 : Nat) : Int) + (n : Int) = (n : Int) by simp] at this
  rw [← this]
  have hcap : bs.length ≤ cap := by obtain ⟨_, _, he, g1, _⟩ := hv; simp only [Value.slice.injEq] at he; omega
  have b1 : (Instr.sliceBound (.int k2 (n : Int)) cap .sliceAcap).run P W = .ok n W := by rw [run_sliceBound _ _ _ _ _ (by omega) (by omega)]; simp
  have b2 : (Instr.sliceBound (.int .i64 0) n .sliceB).run P W = .ok 0 W := by rw [run_sliceBound _ _ _ _ _ (by omega) (by omega)]; simp
  simp [Instr.slice, run_underlying ht, Instr.sliceBounds, b1, b2]

set_option maxHeartbeats 1000000 in
theorem bodyOne_walk (v : Value) (bs : List UInt8) (w : World) (hv : Bs w v bs) (hz : bs.length ≤ 140737488351232) :
    Calls Try.prog 6 #[v] w fun e w' => e = .returned (.bool true) ∧ Below w.heap.size w w' := by
  have HV : Hid (Bs w v bs) := hv
  obtain ⟨xa, cx, rfl, q1, q2, q3⟩ := hv
  clear q1 q2 q3
  go_enter Try.func6, Try.ntmps6
  go_wp2_with fail
  refine (wakes8_any _).mono ?_
  rintro e w1 ⟨rfl, h1⟩
  have HV1 : Hid (Bs w1 (.slice xa bs.length cx) bs) := HV.out.later h1
  have HB1 : Hid (Below w.heap.size w w1) := h1
  clear h1 HV
  by_cases hlong : 2000 < bs.length
  · have i1 : (2000 : Int) < (bs.length : Int) := by omega
    go_wp2
    go_ret
    exact ⟨rfl, HB1.out⟩
  · have i1 : (bs.length : Int) ≤ 2000 := by omega
    have HR : Hid (Calls Try.prog 15 #[.slice xa bs.length cx, .int .i64 0] w1 fun e w' => GotD w1 w' bs 0 e) := read_at HV1.out (by omega) 0 (Nat.zero_le _)
    go_wp2_with fail
    refine Calls.mono HR.out ?_
    rintro e w2 ⟨hno, hyes, hb2⟩
    simp only [List.drop_zero, Nat.zero_mod, decide_true, Nat.zero_add] at hno hyes
    clear HR
    have HB2 : Hid (Below w.heap.size w w2) := HB1.out.trans (hb2.mono HB1.out.size)
    by_cases hE : (rdS bs true).2 = 0
    · obtain ⟨cv, kv, rfl, hc, hk⟩ := hyes hE
      obtain ⟨o1, o2, o3, -⟩ := body_ok hE
      have HV2 : Hid (Bs w2 (.slice xa bs.length cx) bs) := HV1.out.later hb2
      obtain ⟨ca, cc, rfl, -, -⟩ := hc.shape
      obtain ⟨ka, kc, rfl, -, -⟩ := hk.shape
      obtain ⟨cl, hcl⟩ : ∃ n, n = (rdC bs true).length := ⟨_, rfl⟩
      obtain ⟨kl, hkl⟩ : ∃ n, n = (rdK bs true).length := ⟨_, rfl⟩
      rw [← hcl] at hc ⊢
      rw [← hkl] at hk ⊢
      have hb3 : Below w2.heap.size w2 (w2.alloc (.cells #[.slice ca cl cc, .slice ka kl kc] 25)) := (Below.refl _ _).alloc (Nat.le_refl _) _
      obtain ⟨to_, hto⟩ : ∃ n, n = (rdS bs true).1 := ⟨_, rfl⟩
      have hwe : writeE (rdC bs true) (rdK bs true) = 0 := by simp [writeE, o1]
      have hwl : writeL (rdC bs true) (rdK bs true) = bs.take to_ := by rw [show writeL (rdC bs true) (rdK bs true) = wrL (rdC bs true) (rdK bs true) by simp [writeL, o1], o3, hto]
      rw [← hto] at o2 ⊢
      have HW : Hid (Calls Try.prog 11 #[.agg #[.slice ca cl cc, .slice ka kl kc]] (w2.alloc (.cells #[.slice ca cl cc, .slice ka kl kc] 25)) fun e w' => ∃ v, e = .returned (.tuple #[v, .int .i64 0]) ∧ Bs w' v (bs.take to_) ∧ Below w.heap.size w w' ∧ Bs w' (.slice xa bs.length cx) bs) := by
        refine (write_any (hc.later hb3) (hk.later hb3)).mono ?_
        rintro e w' ⟨v, rfl, g1, g2⟩
        rw [hwl] at g1
        exact ⟨v, by rw [hwe], g1.bs, HB2.out.trans ((hb3.mono HB2.out.size).trans (g2.mono (by have := HB2.out.size; simp; omega))), (HV2.out.later hb3).later g2⟩
      have ito : (to_ : Int) ≤ (bs.length : Int) := by omega
      clear hc hk hb3 hno hyes hE o1 o3 hcl hkl hwe hwl hto hb2
      go_wp2_with fail
      refine Calls.mono HW.out ?_
      rintro e w3 ⟨v3, rfl, h3, hB3, hV3⟩
      obtain ⟨a', cap', hsl, hbt⟩ := slice_to8 (P := Try.prog) hV3 to_ o2 22 5 Try.underlying22 rfl
      have HS : Hid (Calls Try.prog 13 #[v3, .slice a' to_ cap'] w3 fun e w' => e = .returned (.bool true) ∧ Below w.heap.size w w') := by
        refine (same_any h3 hbt).mono ?_
        rintro e w' ⟨rfl, n, rfl⟩
        exact ⟨by simp, Below.drewN hB3 n⟩
      clear HW h3 hB3 hV3 hbt HV2
      go_wp2_with fail
      refine Calls.mono HS.out ?_
      rintro e w4 ⟨rfl, h4⟩
      go_wp2
      go_ret
      exact ⟨rfl, h4⟩
    · obtain rfl := hno hE
      clear hyes hno
      obtain ⟨er, her⟩ : ∃ n, n = (rdS bs true).2 := ⟨_, rfl⟩
      rw [← her] at hE ⊢
      have he' : (er != 0) = true := by simpa using hE
      clear her hE
      have HB3 : Hid (Below w.heap.size w (w2.alloc (.cells #[.slice none 0 0, .slice none 0 0] 25))) := HB2.out.alloc HB2.out.size _
      go_wp2
      go_ret
      exact ⟨rfl, HB3.out⟩

end Go.Proofs.Ytfgjlljbpcombaa
