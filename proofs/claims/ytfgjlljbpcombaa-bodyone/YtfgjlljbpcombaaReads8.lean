
/- Read of the program. -/
import Derived.Test.YtfgjlljbpcombaaBodies8
namespace Go.Proofs.Ytfgjlljbpcombaa
set_option linter.unusedVariables false
set_option linter.unusedSimpArgs false
open Go.RowKit
attribute [local go_sem ↓] Go.wp_at_zero Go.wp_at_succ

/-- What Read leaves, of a place that is one. -/
structure GotD (w w' : World) (bs : List UInt8) (a : Nat) (e : Ending) : Prop where
  no : (rdS (bs.drop a) (decide (a % 4 = 0))).2 ≠ 0 → e = .returned (.tuple #[.agg #[.slice none 0 0, .slice none 0 0], .int .i64 0, .int .i64 (rdS (bs.drop a) (decide (a % 4 = 0))).2])
  yes : (rdS (bs.drop a) (decide (a % 4 = 0))).2 = 0 → ∃ cv kv, e = .returned (.tuple #[.agg #[cv, kv], .int .i64 ((a + (rdS (bs.drop a) (decide (a % 4 = 0))).1 : Nat) : Int), .int .i64 0]) ∧ Bs w' cv (rdC (bs.drop a) (decide (a % 4 = 0))) ∧ Ws w' kv (rdK (bs.drop a) (decide (a % 4 = 0)))
  below : Below w.heap.size w w'

theorem read_range {w : World} (xa : Option Addr) (n cx : Nat) (hn : n ≤ maxLen) (at_ : Int) (h : at_ < 0 ∨ (n : Int) < at_) :
    Calls Try.prog 15 #[.slice xa n cx, .int .i64 at_] w fun e w' => e = .returned (.tuple #[.agg #[.slice none 0 0, .slice none 0 0], .int .i64 0, .int .i64 3]) ∧ Below w.heap.size w w' := by
  unfold maxLen at hn
  have HB : Hid (Below w.heap.size w (w.alloc (.cells #[.slice none 0 0, .slice none 0 0] 25))) := (Below.refl _ _).alloc (Nat.le_refl _) _
  by_cases h0 : at_ < 0
  · clear h
    go_enter Try.func15, Try.ntmps15
    go_wp2
    exact bodyPost_ret (v := .tuple #[.agg #[.slice none 0 0, .slice none 0 0], .int .i64 0, .int .i64 3]) (by simp [results, Try.results15, go_sem]) rfl ⟨rfl, HB.out⟩
  · have h1 : (n : Int) < at_ := by omega
    clear h
    go_enter Try.func15, Try.ntmps15
    go_wp2
    exact bodyPost_ret (v := .tuple #[.agg #[.slice none 0 0, .slice none 0 0], .int .i64 0, .int .i64 3]) (by simp [results, Try.results15, go_sem]) rfl ⟨rfl, HB.out⟩

theorem pair_get {x y : Option Addr} {a b c d : Nat} {o : Nat} {k : IntKind} {n : Int} (h : (#[.slice x a b, .slice y c d] : Array Value)[o]? = some (.int k n)) : False := by
  rcases o with _ | _ | o <;> simp at h
theorem Bs.notAt {w : World} {v : Value} {bs : List UInt8} {g : Nat} {x y : Option Addr} {a b c d : Nat} {t : TypeId} (h : Bs w v bs) (hA : At w g #[.slice x a b, .slice y c d] t) : bs ≠ [] → ∀ k, v.ownBlock = some k → k ∉ [g] := by
  obtain ⟨ad, cap, rfl, h1, h2, h3⟩ := h
  intro hne k hk
  obtain ⟨b', off, rfl, hb, hc⟩ := h3 hne
  simp [Value.ownBlock] at hk
  subst hk
  intro hm
  simp at hm
  subst hm
  have := hc 0 (List.length_pos_iff.2 hne)
  rw [hA.cell] at this
  exact pair_get this
theorem Ws.onq {w w' : World} {v : Value} {r : List Rw} {g : Nat} {x y : Option Addr} {a b c d : Nat} {t : TypeId} (h : Ws w v r) (ho : Onp [g] w w') (hA : At w g #[.slice x a b, .slice y c d] t) : Ws w' v r := by
  by_cases hr : r = []
  · subst hr
    obtain ⟨ad, cap, rfl, h1, h2, h3⟩ := h
    exact ⟨ad, cap, rfl, h1, h2, fun hne => absurd rfl hne⟩
  · refine h.onp ho fun k hk => ?_
    obtain ⟨b', off, cap, rfl, _, _, hb, hc⟩ := h.parts hr
    simp [Value.ownBlock] at hk
    subst hk
    intro hm
    simp at hm
    subst hm
    have := (hc 0 (List.length_pos_iff.2 hr)).1
    rw [hA.cell] at this
    exact pair_get this

set_option maxHeartbeats 1000000 in
set_option maxRecDepth 100000 in
theorem read_at {w : World} {v : Value} {bs : List UInt8} (hv : Bs w v bs) (hl : bs.length ≤ 100000) (a : Nat) (ha : a ≤ bs.length) :
    Calls Try.prog 15 #[v, .int .i64 (a : Int)] w fun e w' => GotD w w' bs a e := by
  obtain ⟨xa, cx, rfl, h1, h2⟩ := hv.shape
  obtain ⟨wa, hwa⟩ : ∃ W, W = w.alloc (.cells #[.slice none 0 0, .slice none 0 0] 25) := ⟨_, rfl⟩
  have hb0 : Below w.heap.size w wa := by rw [hwa]; exact (Below.refl _ _).alloc (Nat.le_refl _) _
  have hA0 : At wa w.heap.size #[.slice none 0 0, .slice none 0 0] 25 := by rw [hwa]; exact At.made _ _ _
  have hsa : w.heap.size < wa.heap.size := by rw [hwa]; simp
  obtain ⟨ya, cy, hsl, hby, -⟩ := slice_from (P := Try.prog) (hv.later hb0) a ha 22 5 Try.underlying22 rfl
  have hbl : (bs.drop a).length ≤ 281474976710656 := by simp; omega
  obtain ⟨g, hg⟩ : ∃ g, g = w.heap.size := ⟨_, rfl⟩
  obtain ⟨rb, hrb⟩ : ∃ r, r = wa.heap.size + 1 := ⟨_, rfl⟩
  have HNew : Hid (Calls Try.prog 25 #[.slice ya (bs.length - a) cy] wa fun e w' => e = .returned (.pointer (some ⟨rb, 0, none⟩)) ∧ RdAt w' rb (bs.drop a) 0 ∧ Below w.heap.size w w' ∧ At w' g #[.slice none 0 0, .slice none 0 0] 25 ∧ g < rb) := by
    refine (new_any hby hbl).mono ?_
    rintro e w' ⟨rfl, k1, k2⟩
    refine ⟨by rw [hrb], by rw [hrb]; exact k1, hb0.trans (k2.mono (by omega)), ?_, by omega⟩
    rw [hg]; exact hA0.later k2
  have HV : Hid (∀ (w' : World) (e : Ending), GotD w w' bs a e ↔ (((rdS (bs.drop a) (decide (a % 4 = 0))).2 ≠ 0 → e = .returned (.tuple #[.agg #[.slice none 0 0, .slice none 0 0], .int .i64 0, .int .i64 (rdS (bs.drop a) (decide (a % 4 = 0))).2])) ∧ ((rdS (bs.drop a) (decide (a % 4 = 0))).2 = 0 → ∃ cv kv, e = .returned (.tuple #[.agg #[cv, kv], .int .i64 ((a + (rdS (bs.drop a) (decide (a % 4 = 0))).1 : Nat) : Int), .int .i64 0]) ∧ Bs w' cv (rdC (bs.drop a) (decide (a % 4 = 0))) ∧ Ws w' kv (rdK (bs.drop a) (decide (a % 4 = 0)))) ∧ Below w.heap.size w w')) := fun w' e => ⟨fun h => ⟨h.1, h.2, h.3⟩, fun h => ⟨h.1, h.2.1, h.2.2⟩⟩
  have HGW : Hid (g = w.heap.size) := hg
  have hlen : (bs.drop a).length ≤ 100000 := by simp; omega
  have HLn : Hid ((bs.drop a).length ≤ 100000) := hlen
  clear hv h1 h2 hby hbl hb0 hA0 hsa hlen hrb
  have HG : Hid (∀ w' e, GotD w w' bs a e → GotD w w' bs a e) := fun _ _ h => h
  obtain ⟨ds, hds⟩ : ∃ d, d = bs.drop a := ⟨_, rfl⟩
  obtain ⟨al, hal⟩ : ∃ d, d = decide (a % 4 = 0) := ⟨_, rfl⟩
  rw [← hds] at HNew HLn HV
  rw [← hal] at HV
  have HBd : Hid (∀ W rr, Rx W rr rb ds (0, 0) → Calls Try.prog 26 #[.pointer (some ⟨rr, 0, none⟩), .int .i64 (a : Int)] W fun e w' => GotB W w' rr rb ds al e) := fun W rr h => by rw [hal]; exact body_any h a
  clear hal hds HG
  have ila : (a : Int) ≤ (bs.length : Int) := by omega
  go_enter Try.func15, Try.ntmps15
  go_wp2_with fail
  rw [← hwa, ← hg]
  clear hwa hg
  refine Calls.mono HNew.out ?_
  rintro e w1 ⟨rfl, k1, k2, k3, k4⟩
  clear HNew hsl
  have hrl := k1.lt
  obtain ⟨rr, hrr⟩ : ∃ r, r = w1.heap.size := ⟨_, rfl⟩
  obtain ⟨wb, hwb⟩ : ∃ W, W = w1.alloc (.cells #[.pointer (some ⟨rb, 0, none⟩), .int .i64 0] 56) := ⟨_, rfl⟩
  have hb1 : Below w1.heap.size w1 wb := by rw [hwb]; exact (Below.refl _ _).alloc (Nat.le_refl _) _
  have hX : Rx wb rr rb ds (0, 0) := ⟨by rw [hwb, hrr]; exact At.made _ _ _, k1.only hb1, by omega⟩
  have HGb : Hid (At wb g #[.slice none 0 0, .slice none 0 0] 25) := k3.later hb1
  have HBb : Hid (Below w.heap.size w wb) := k2.trans (hb1.mono k2.size)
  have HNe : Hid (g < rb ∧ rb < rr ∧ rr < wb.heap.size) := ⟨k4, by omega, hX.box.lt⟩
  have HBd1 : Hid (Calls Try.prog 26 #[.pointer (some ⟨rr, 0, none⟩), .int .i64 (a : Int)] wb fun e w' => GotB wb w' rr rb ds al e) := HBd.out wb rr hX
  clear k1 k2 k3 k4 hb1 hX HBd hrl
  go_wp2_with fail
  rw [← hwb, ← hrr]
  clear hwb hrr
  refine Calls.mono HBd1.out ?_
  rintro e w2 ⟨⟨cv, kv, rfl, hc, hk⟩, hx, ho⟩
  obtain ⟨ca, cc, rfl, -, -⟩ := hc.shape
  obtain ⟨ka, kc, rfl, -, -⟩ := hk.shape
  obtain ⟨n1, n2, n3⟩ := HNe.out
  obtain ⟨cl, hcl⟩ : ∃ n, n = (rdC ds al).length := ⟨_, rfl⟩
  obtain ⟨kl, hkl⟩ : ∃ n, n = (rdK ds al).length := ⟨_, rfl⟩
  rw [← hcl] at hc ⊢
  rw [← hkl] at hk ⊢
  clear hcl hkl
  obtain ⟨g8, hg8⟩ : ∃ k, k = w2.heap.size := ⟨_, rfl⟩
  obtain ⟨wd, hwd⟩ : ∃ W, W = w2.alloc (.cells #[.slice ca cl cc, .slice ka kl kc] 25) := ⟨_, rfl⟩
  have hb2 : Below w2.heap.size w2 wd := by rw [hwd]; exact (Below.refl _ _).alloc (Nat.le_refl _) _
  have hA8 : At wd g8 #[.slice ca cl cc, .slice ka kl kc] 25 := by rw [hwd, hg8]; exact At.made _ _ _
  have hgw := HGW.out
  have hxd := hx.later hb2
  have hGd := (HGb.out.onl ho (by omega) (by omega)).later hb2
  have HBcd : Hid (Bs wd (.slice ca cl cc) (rdC ds al)) := hc.later hb2
  have HKcd : Hid (Ws wd (.slice ka kl kc) (rdK ds al)) := hk.later hb2
  have HBd2 : Hid (Below w.heap.size w wd) := HBb.out.trans ((ho.below (by omega) (by omega) (by omega)).trans (hb2.mono (by have := ho.size; omega)))
  have HSz : Hid (rr < wd.heap.size ∧ g8 < wd.heap.size) := ⟨hxd.box.lt, hA8.lt⟩
  have HXd : Hid (Rx wd rr rb ds (rdS ds al)) := hxd
  have HA8 : Hid (At wd g8 #[.slice ca cl cc, .slice ka kl kc] 25) := hA8
  have HGd : Hid (At wd g #[.slice none 0 0, .slice none 0 0] 25) := hGd
  have tc := hxd.box.cell
  have tcA : ∀ o, (w2.alloc (.cells #[.slice ca cl cc, .slice ka kl kc] 25)).cell? ⟨rr, o, none⟩ = (#[.pointer (some ⟨rb, 0, none⟩), .int .i64 (rdS ds al).2] : Array Value)[o]? := by rw [← hwd]; exact tc
  clear hc hk hx ho hb2 hA8 hxd hGd n1 n2 n3 HBd1 hgw HGb HBb
  generalize rdS ds al = S at *
  obtain ⟨sa, se⟩ := S
  simp only at tc tcA
  have tg := HGd.out.cell
  have tgm := HGd.out.melt
  have t8 := HA8.out.cell
  have hng : rr ≠ g ∧ rb ≠ g := by have := HNe.out; omega
  have HCa : Hid (∀ x0 x1 y0 y1, (∀ o, (wd.setCell ⟨g, 0, none⟩ (.slice x0 y0 y1)).cell? ⟨g, o, none⟩ = (#[.slice x0 y0 y1, .slice none 0 0] : Array Value)[o]?) ∧ (∀ o, ((wd.setCell ⟨g, 0, none⟩ (.slice x0 y0 y1)).setCell ⟨g, 1, none⟩ x1).cell? ⟨g, o, none⟩ = (#[.slice x0 y0 y1, x1] : Array Value)[o]?)) := fun x0 x1 y0 y1 =>
    ⟨(HGd.out.set 0 (.slice x0 y0 y1)).cell, ((HGd.out.set 0 (.slice x0 y0 y1)).set 1 x1).cell⟩
  have HBe : Hid (∀ x0 x1, Below w.heap.size w ((wd.drew.setCell ⟨g, 0, none⟩ x0).setCell ⟨g, 1, none⟩ x1)) := fun x0 x1 => by
    have hgw := HGW.out
    exact ((Below.drewN HBd2.out 1).setCell (by show w.heap.size ≤ g; omega) _).setCell (by show w.heap.size ≤ g; omega) _
  have hsle := HXd.out.rd.le
  have hln := HLn.out
  by_cases hse : se = 0
  · subst hse
    have hw1 : IntKind.i64.wrap ((a : Int) + (sa : Int)) = (a : Int) + (sa : Int) := by simp only at hsle; simp [IntKind.wrap, IntKind.signed, IntKind.bits]; omega
    have HAt : Hid (Calls Try.prog 27 #[.pointer (some ⟨rb, 0, none⟩)] wd.drew fun e w' => e = .returned (.int .i64 (sa : Int)) ∧ w' = wd.drew) := at_any (HXd.out.rd.drewN 1)
    go_wp2_with fail
    rw [← hwd, ← hg8]
    clear hwd hg8 tcA hng
    have HBf : Hid (Bs ((wd.drew.setCell ⟨g, 0, none⟩ (.slice ca cl cc)).setCell ⟨g, 1, none⟩ (.slice ka kl kc)) (.slice ca cl cc) (rdC ds al)) := HBcd.out.onp (l := [g]) (((Onp.of_below (Below.drewN (Below.refl _ _) 1)).setCell (by simp) _ _).setCell (by simp) _ _) (HBcd.out.notAt HGd.out)
    have HKf : Hid (Ws ((wd.drew.setCell ⟨g, 0, none⟩ (.slice ca cl cc)).setCell ⟨g, 1, none⟩ (.slice ka kl kc)) (.slice ka kl kc) (rdK ds al)) := HKcd.out.onq (((Onp.of_below (Below.drewN (Below.refl _ _) 1)).setCell (by simp) _ _).setCell (by simp) _ _) HGd.out
    go_region_with (go_at_call 27; refine Calls.mono HAt.out ?_; rintro e wz ⟨rfl, hz⟩; subst wz)
    all_goals go_wp2
    all_goals obtain ⟨HC, HD⟩ := HCa.out ca (.slice ka kl kc) cl cc
    all_goals exact bodyPost_ret (v := .tuple #[.agg #[.slice ca cl cc, .slice ka kl kc], .int .i64 ((a : Int) + (sa : Int)), .int .i64 0]) (by simp [results, Try.results15, go_sem, HC, HD]) rfl ((HV.out _ _).2 ⟨fun h => absurd rfl h, fun _ => ⟨_, _, rfl, HBf.out, HKf.out⟩, HBe.out _ _⟩)
  · have hse' : (se != 0) = true := by simpa using hse
    go_wp2_with fail
    rw [← hwd, ← hg8]
    clear hwd hg8 tcA
    have hng1 : rr ≠ g := hng.1
    have hng2 : g ≠ rr := fun h => hng.1 h.symm
    clear hng
    go_region
    all_goals go_wp2
    all_goals obtain ⟨HC, HD⟩ := HCa.out none (.slice none 0 0) 0 0
    all_goals exact bodyPost_ret (v := .tuple #[.agg #[.slice none 0 0, .slice none 0 0], .int .i64 0, .int .i64 se]) (by simp [results, Try.results15, go_sem, HC, HD]) rfl ((HV.out _ _).2 ⟨fun _ => rfl, fun h => absurd h hse, HBe.out _ _⟩)

end Go.Proofs.Ytfgjlljbpcombaa
