/- OctetReads: the walk. -/
import Derived.Test.YthghgagkkjnmhaaOne
import Derived.Test.YthghgagkkjnmhaaWakes
import Derived.Test.YthghgagkkjnmhaaOpen
import Derived.Deep.SlicePairs
namespace Go.Proofs.Ythghgagkkjnmhaa
set_option linter.unusedVariables false
set_option linter.unusedSimpArgs false
open Go.RowKit Go.ChangeShapes Go.WideShapes

/-- The value is a slice of just these acts in that world. -/
def Acts (w : World) (v : Value) (xs : List (Int × Int)) : Prop :=
  ∃ a cap, v = .slice a xs.length cap ∧ xs.length ≤ cap ∧ cap ≤ maxLen ∧
    (xs ≠ [] → ∃ b off, a = some ⟨b, off, none⟩ ∧ b < w.heap.size ∧ ∀ i (h : i < xs.length), w.cell? ⟨b, off + i * 2, none⟩ = some (.int .i64 xs[i].1) ∧ w.cell? ⟨b, off + (i * 2 + 1), none⟩ = some (.int .i64 xs[i].2))

theorem open_Scattlegridlaw01_Act {H : Type} {enc : TypeId × Value → H} {W : World} {base : Nat} {v : Value} {d : DataW H} {p : List MemPlace}
    (hv : Value.okWide Try.prog W .any base 23 v) (h : DataW.Trod enc Try.prog W 0 (fun _ => true) true 23 v d p) : ∃ xs, Acts W v xs := by
  obtain ⟨a, len, cap, rfl⟩ := okWide_slice Try.underlying23 hv
  obtain ⟨fuel, hf⟩ := h
  rcases Go.Deep.open_slice_pairs Try.underlying23 Try.underlying28 (by kernel_rfl) (by kernel_rfl) (by kernel_rfl) (by kernel_rfl) (by kernel_rfl) hf with ⟨hcs, _⟩ | ⟨x, l, c, m, nn, V0, V1, D0, D1, P0, P1, hcs, _, hl, hm, hmm, hd, hc⟩
  · simp [Value.cells] at hcs
    obtain ⟨rfl, rfl, rfl⟩ := hcs
    exact ⟨[], none, 0, rfl, Nat.le_refl _, Nat.zero_le _, fun h => absurd rfl h⟩
  · simp [Value.cells] at hcs
    obtain ⟨rfl, rfl, rfl⟩ := hcs
    simp only [if_true] at hmm
    subst hmm
    let num : Value → Int := fun u => match u with | .int _ q => q | _ => 0
    have hV : ∀ i, i < m → W.cell? (x.add (i * 2)) = some (.int .i64 (num (V0 i))) ∧ W.cell? (x.add (i * 2 + 1)) = some (.int .i64 (num (V1 i))) := by
      intro i hi
      obtain ⟨g0, g1, g2, g3⟩ := hc i hi
      obtain ⟨q0, e0, _⟩ := DataW.trod_int Try.underlying3 g2
      obtain ⟨q1, e1, _⟩ := DataW.trod_int Try.underlying3 g3
      simp at e0 e1
      rw [g0, g1, e0, e1]
      exact ⟨rfl, rfl⟩
    have hlen : ((List.range len).map fun i => (num (V0 i), num (V1 i))).length = len := by simp
    refine ⟨(List.range len).map fun i => (num (V0 i), num (V1 i)), some x, m, by rw [hlen], by rw [hlen]; exact hl, hm, fun hne => ?_⟩
    have hpos : 0 < len := by
      rcases Nat.eq_zero_or_pos len with h | h
      · subst h; simp at hne
      · exact h
    obtain ⟨b, off, spot⟩ := x
    have c0 := (hV 0 (by omega)).1
    have hspot : spot = none := by simpa [Addr.add] using World.cell?_spot c0
    subst hspot
    have hplain : ∀ j, (⟨b, off, none⟩ : Addr).add j = ⟨b, off + j, none⟩ := by intro j; unfold Addr.add; split <;> simp_all
    refine ⟨b, off, rfl, ?_, fun i hi => ?_⟩
    · rcases Nat.lt_or_ge b W.heap.size with h | h
      · exact h
      · rw [hplain] at c0; simp [World.cell?, Array.getElem?_eq_none h] at c0
    · rw [hlen] at hi
      have := hV i (by omega)
      rw [hplain, hplain] at this
      simpa using this

theorem Acts.later {w w' : World} {v : Value} {xs : List (Int × Int)} (h : Acts w v xs) (hb : Below w.heap.size w w') : Acts w' v xs := by
  obtain ⟨a, cap, rfl, h1, h2, h3⟩ := h
  refine ⟨a, cap, rfl, h1, h2, fun hne => ?_⟩
  obtain ⟨b, off, rfl, hl, hc⟩ := h3 hne
  refine ⟨b, off, rfl, Nat.lt_of_lt_of_le hl hb.size, fun i hi => ?_⟩
  rw [hb.cell (p := ⟨b, off + i * 2, none⟩) hl, hb.cell (p := ⟨b, off + (i * 2 + 1), none⟩) hl]
  exact hc i hi

set_option maxRecDepth 100000 in
set_option maxHeartbeats 1000000 in
theorem octetReads_long (a a1 : Option Addr) (len cap len1 cap1 : Nat) (w : World) (hl : 4096 < len ∨ 200 < len1) (h1 : len ≤ cap) (h2 : cap ≤ maxLen) (g1 : len1 ≤ cap1) (g2 : cap1 ≤ maxLen) :
    Calls Try.prog 3 #[.slice a len cap, .slice a1 len1 cap1] w fun e w' => e = .returned (.bool true) ∧ Below w.heap.size w w' := by
  by_cases hc : 4096 < len
  · go_enter Try.func3, Try.ntmps3
    go_wp2_with fail
    refine (wakes_any _).mono ?_
    rintro e w1 ⟨rfl, hb1⟩
    go_wp2_with fail
    go_ret
    exact ⟨rfl, hb1⟩
  · have hc2 : 200 < len1 := by omega
    go_enter Try.func3, Try.ntmps3
    go_wp2_with fail
    refine (wakes_any _).mono ?_
    rintro e w1 ⟨rfl, hb1⟩
    go_wp2_with fail
    go_ret
    exact ⟨rfl, hb1⟩

set_option maxRecDepth 100000 in
set_option maxHeartbeats 2000000 in
theorem octetReads_go (bs : List UInt8) (xs : List (Int × Int)) (a a1 : Option Addr) (cap cap1 : Nat) (w : World) (hl : bs.length ≤ 4096) (hx : xs.length ≤ 200) (hv : Bs w (.slice a bs.length cap) bs) (hv1 : Acts w (.slice a1 xs.length cap1) xs) :
    Calls Try.prog 3 #[.slice a bs.length cap, .slice a1 xs.length cap1] w fun e w' => e = .returned (.bool true) ∧ Below w.heap.size w w' := by
  have HV : Hid (Bs w (.slice a bs.length cap) bs) := hv
  have HX : Hid (Acts w (.slice a1 xs.length cap1) xs) := hv1
  clear hv hv1
  go_enter Try.func3, Try.ntmps3
  go_wp2_with fail
  refine (wakes_any _).mono ?_
  rintro e w1 ⟨rfl, hb1⟩
  have hsw1 := hb1.size
  have HV1 : Hid (Bs w1 (.slice a bs.length cap) bs) := HV.out.later hb1
  have HX1 : Hid (Acts w1 (.slice a1 xs.length cap1) xs) := HX.out.later hb1
  have HB1 : Hid (Below w.heap.size w w1) := hb1
  clear hb1 HV HX
  go_wp2_with (at_builtin; go_must (refine wpList_append_bs rfl _ _ _ rfl (w1.heap.size) 5 Try.underlying22 Try.infoU8 rfl rfl (Own.lit w1 w1.heap.size 5 [] #[] 0 (Nat.le_refl _) rfl rfl (by decide)) (HV1.out.later ((Below.refl _ _).alloc (Nat.le_refl _) _)) (by simp; omega) (by simp) ?_; intro v2 w2 ho2 hg2))
  obtain ⟨hO, hB, hK2, hs2⟩ := copied ho2 hg2
  have HO2 : Hid (Bs w2 v2 bs) := hO
  have HB2 : Hid (Below w1.heap.size w1 w2) := hB
  clear ho2 hg2 hO hB hK2
  refine (new_any HO2.out (by omega)).mono ?_
  rintro e w3 ⟨rfl, hr3, hb3⟩
  have hsw3 := hb3.size
  have HR3 : Hid (RdAt w3 (w2.heap.size + 1) bs 0) := hr3
  have HB3 : Hid (Below w1.heap.size w1 w3) := HB2.out.trans (hb3.mono (by omega))
  have hlt3 := hr3.lt
  clear hr3 hb3 HO2 HB2
  go_wp2_with fail
  have HV3 : Hid (Bs w3 (.slice a bs.length cap) bs) := HV1.out.later HB3.out
  have HK : Hid (bs ≠ [] → (Value.slice a bs.length cap).ownBlock ≠ some (w2.heap.size + 1)) := by
    intro hne e
    obtain ⟨a', c', he, _, _, h3⟩ := HV1.out
    obtain ⟨b, off, rfl, hb, _⟩ := h3 hne
    simp only [Value.slice.injEq] at he
    rw [he.1] at e
    simp [Value.ownBlock] at e
    omega
  clear HV1
  generalize hrb : w2.heap.size + 1 = rb at *
  have hrbl : w1.heap.size < rb := by omega
  clear hrb
  go_loopw [6, 27] (fun t i wr => ∃ k at_ : Nat, k ≤ xs.length ∧ i = .int .i64 k ∧ t = .int .i64 (at_ : Int) ∧ RdAt wr rb bs at_ ∧ Only rb w3 wr) (fun _ i _ => xs.length - (intOf i).toNat)
  case atStart => exact ⟨0, 0, Nat.zero_le _, rfl, rfl, HR3.out, Only.refl _ _⟩
  case round =>
    obtain ⟨k, at_, hk, rfl, rfl, hr, ho⟩ := hrel
    have HR : Hid (RdAt wr rb bs at_) := hr
    have HO : Hid (Only rb w3 wr) := ho
    have hsr := ho.size
    have hltr := hr.lt
    have hle := hr.le
    clear hr ho
    by_cases hkn : k < xs.length
    · obtain ⟨a', c', he, g1, g2, g3⟩ := HX1.out
      obtain ⟨b, off, rfl, hb, hc⟩ := g3 (by intro e; subst e; simp at hkn)
      simp only [Value.slice.injEq] at he
      obtain ⟨rfl, _, rfl⟩ := he
      have hbr : Below w1.heap.size w1 wr := HB3.out.trans (HO.out.below (by omega) (by have := HB3.out.size; omega))
      obtain ⟨c0, c1⟩ := hc k hkn
      rw [← hbr.cell (p := ⟨b, off + k * 2, none⟩) hb] at c0
      rw [← hbr.cell (p := ⟨b, off + (k * 2 + 1), none⟩) hb] at c1
      rw [← Nat.add_assoc] at c1
      generalize xs[k].1 = kind at *
      generalize xs[k].2 = n at *
      clear hc g3 hbr
      go_wp2_with fail
      have hbA : Below wr.heap.size wr (wr.alloc (.cells #[.int .i64 kind, .int .i64 n] 28)) := (Below.refl _ _).alloc (Nat.le_refl _) _
      refine (one_any (HR.out.only hbA) ((HV3.out.only HO.out HK.out).later hbA) HK.out kind n).mono ?_
      rintro e w5 ⟨m, rfl, hr5, ho5⟩
      have HR5 : Hid (RdAt w5 rb bs (at_ + m)) := hr5
      have HO5 : Hid (Only rb w3 w5) := (HO.out.alloc _).trans ho5
      have hle5 := hr5.le
      clear hr5 ho5 hbA c0 c1
      go_wp2_with fail
      have HAt := at_any HR5.out
      rw [show ((at_ + m : Nat) : Int) = (at_ : Int) + m by omega] at HAt
      refine HAt.mono ?_
      rintro e w6 ⟨rfl, hz6⟩
      subst w6
      clear HAt
      go_wp2_with fail
      have HLt := left_any HR5.out
      rw [show ((at_ + m : Nat) : Int) = (at_ : Int) + m by omega] at HLt
      refine HLt.mono ?_
      rintro e w7 ⟨rfl, n7, hz7⟩
      have HR7 : Hid (RdAt w7 rb bs (at_ + m)) := by subst hz7; exact HR5.out.drewN n7
      have HO7 : Hid (Only rb w3 w7) := by subst hz7; exact HO5.out.drewN n7
      clear HLt hz7
      go_wp2
      go_roundw
      case rel => exact ⟨k + 1, at_ + m, by omega, by go_num, by go_num, HR7.out, HO7.out⟩
      case measure => simp [intOf]; omega
    · go_wp2
      go_ret
      exact ⟨rfl, HB1.out.trans ((HB3.out.trans (HO.out.below (by omega) (by have := HB3.out.size; omega))).mono hsw1)⟩

theorem octetReads_walk (v : Value) (bs : List UInt8) (v1 : Value) (xs : List (Int × Int)) (w : World) (hv : Bs w v bs) (hz : bs.length ≤ 140737488351232) (hv1 : Acts w v1 xs) :
    Calls Try.prog 3 #[v, v1] w fun e w' => e = .returned (.bool true) ∧ Below w.heap.size w w' := by
  have hv0 := hv
  have hv10 := hv1
  obtain ⟨a, cap, rfl, h1, h2, h3⟩ := hv
  obtain ⟨a1, cap1, rfl, g1, g2, g3⟩ := hv1
  by_cases hl : 4096 < bs.length ∨ 200 < xs.length
  · exact octetReads_long a a1 bs.length cap xs.length cap1 w hl h1 h2 g1 g2
  · exact octetReads_go bs xs a a1 cap cap1 w (by omega) (by omega) hv0 hv10

end Go.Proofs.Ythghgagkkjnmhaa
