
/- newMaker, and put of what isn't there yet. -/
import Derived.Test.YtlcfbnbbdpgjiaaRows
import Derived.Test.YtlcfbnbbdpgjiaaMaker
namespace Go.Proofs.Ytlcfbnbbdpgjiaa
set_option linter.unusedVariables false
set_option linter.unusedSimpArgs false
open Go.RowKit Go.Maps

def M0 : List UInt8 → Option Nat := fun s => if s = [] then some 0 else none

theorem told0 : Told (DataW.put (.map []) (.string []) (.lit (.int .i64 0))) M0 := by
  have h : Told (.map []) (fun _ => none) := ⟨fun s => by simp [Maps.has], fun s a h => by simp at h⟩
  have := h.put isMap_empty [] 0
  exact this

theorem mk_new (w w3 : World) (C : Array Value) (hC : C = #[.int .u8 0]) (hg : ((w.alloc (Obj.cells C 5)).alloc (.map #[] 0)).grownBy w3 (some (w.heap.size + 1)))
    (hm : w3.ownsMap Try.prog 9 (plainElem (H := Unit) Try.prog 3) (w.heap.size + 1) (0 + 1) (DataW.put (.map []) (.string []) (.lit (.int .i64 0)))) :
    Mk (w3.alloc (Obj.cells #[.slice (some ⟨w.heap.size, 0, none⟩) 1 1, .map (some (w.heap.size + 1))] 58)) w.heap.size w3.heap.size (w.heap.size + 1) (.slice (some ⟨w.heap.size, 0, none⟩) 1 1) [0] M0 ∧
      Below w.heap.size w (w3.alloc (Obj.cells #[.slice (some ⟨w.heap.size, 0, none⟩) 1 1, .map (some (w.heap.size + 1))] 58)) := by
  subst hC
  have hsz := hg.size
  simp only [World.size_alloc] at hsz
  have ho : OwnV (w.alloc (Obj.cells #[.int .u8 0] 5)) w.heap.size 5 (.slice (some ⟨w.heap.size, 0, none⟩) 1 1) (u8s [0]) := OwnV.lit w w.heap.size _ _ _ _ (Nat.le_refl _) rfl rfl (by decide)
  have ho2 := ho.later ((Below.refl _ _).alloc (Nat.le_refl _) (.map #[] 0))
  have ho3 : OwnV w3 w.heap.size 5 (.slice (some ⟨w.heap.size, 0, none⟩) 1 1) (u8s [0]) := ho2.of_block fun k hk hlt => hg.block k hlt (by
    simp [Value.ownBlock] at hk; subst hk; simp)
  have hb3 : Below w.heap.size w w3 := (((Below.refl _ _).alloc (Nat.le_refl _) _).alloc (by simp) _).trans ⟨hg.os, hg.tape, hg.output, hg.size, fun k hk => hg.block k (by simp; omega) (by simp; omega)⟩
  refine ⟨⟨_, _, Nat.le_refl _, told0, ⟨heap_alloc_new w3 _, ho3.later ((Below.refl _ _).alloc (Nat.le_refl _) _), hm.alloc _, Below.refl _ _, fun _ _ _ h => h, Bs.nil _, .inl rfl, by omega, by omega, by simp; omega⟩⟩, hb3.alloc (by omega) _⟩

set_option maxHeartbeats 400000 in
theorem newMaker_any (w : World) :
    Calls Try.prog 23 #[] w fun e w' => ∃ mb bm pv, e = .returned (.pointer (some ⟨mb, 0, none⟩)) ∧ Mk w' w.heap.size mb bm pv [0] M0 ∧ Below w.heap.size w w' := by
  obtain ⟨w3, hrun, hm3, hg3⟩ := (World.ownsMap_made (w.alloc (Obj.cells #[.int .u8 0] 5)) Try.prog 9 (plainElem (H := Unit) Try.prog 3)).update Try.keyLaw Try.underlying56 (by decide)
    (key := .string ⟨#[]⟩) (val := .int .i64 0) (Go.WideMaps.keyOf_string_mk Try.underlying9 (by decide)) (plainElem_int Try.underlying3 (by decide))
  simp only [World.size_alloc] at hrun hm3 hg3
  have H : Hid _ := mk_new w w3 _ rfl hg3 hm3
  clear hm3 hg3
  have hmm := @run_makeMap Try.prog
  go_enter Try.func23, Try.ntmps23
  go_wp2
  go_ret
  exact ⟨_, _, _, rfl, H.out.1, H.out.2⟩

theorem Ps.shape {w0 w : World} {base mb bm : Nat} {cv pv : Value} {X : List UInt8} {n : Nat} {D : DataW Unit} {vb : Value} {be : List UInt8} (h : Ps w0 w base mb bm cv pv X n D vb be) : ∃ a l c, pv = .slice a l c := by
  obtain ⟨a, c, e, _⟩ := h.own.own.bs
  exact ⟨a, _, c, e⟩

theorem Ps.update {w0 w w7 : World} {base mb bm : Nat} {pv : Value} {X : List UInt8} {n : Nat} {D : DataW Unit} {vb : Value} {be : List UInt8} {M : List UInt8 → Option Nat} (h : Ps w0 w base mb bm pv pv X n D vb be) (ht : Told D M) (hn : n + 1 ≤ X.length) (s : List UInt8) (a : Nat)
    (hm : w7.ownsMap Try.prog 9 (plainElem Try.prog 3) bm (n + 1) (D.put (.string s) (.lit (.int .i64 (a : Int))))) (hg : w.grownBy w7 (some bm)) :
    Mk w7 base mb bm pv X (upd M s a) ∧ Below base w0 w7 ∧ ∀ (k : Nat) C fr, w0.heap[k]? = some (Obj.cells C 3 fr) → w7.heap[k]? = some (Obj.cells C 3 fr) := by
  obtain ⟨es, ck, hmb, hr⟩ := h.map
  have hne : ∀ (k : Nat) C t fr, w.heap[k]? = some (Obj.cells C t fr) → w7.heap[k]? = some (Obj.cells C t fr) := by
    intro k C t fr hk
    rw [hg.block k (Array.getElem?_eq_some_iff.1 hk).1, hk]
    intro e
    simp only [Option.some.injEq] at e
    subst e
    rw [hk] at hmb; simp at hmb
  have hmap : w.ownsMap Try.prog 9 (plainElem Try.prog 3) bm n D := h.map
  refine ⟨⟨n + 1, _, hn, ht.put hmap.isMap s a, ⟨hne mb _ _ _ h.blk, h.own.of_block fun k hk hlt => ?_, hm, Below.refl _ _, fun _ _ _ h => h, Bs.nil _, .inl rfl, h.mlo, h.blo, Nat.le_trans h.top hg.size⟩⟩, h.below.trans ⟨hg.os, hg.tape, hg.output, hg.size, fun k hk => hg.block k (by have := h.top; omega) ?_⟩, fun k C fr hk => hne k C _ fr (h.ints k C fr hk)⟩
  · obtain ⟨C, hC⟩ := h.own.typed k hk
    rw [hne k C _ _ hC, hC]
  · have := h.blo
    simp; omega

set_option maxRecDepth 100000 in
set_option maxHeartbeats 1000000 in
theorem put_new {w : World} {base mb bm : Nat} {pv : Value} {B : List UInt8} {M : List UInt8 → Option Nat} (h : Mk w base mb bm pv B M) (s : ByteArray) (hM : M s.data.toList = none) (hpos : 0 < s.size) {va vb : Value} {ah be : List UInt8} (ha : Bs w va ah) (hb : Bs w vb be)
    (hap : be = [] ∨ ∃ (kb : Nat) (C : Array Value) (fr : Nat × Nat), vb.ownBlock = some kb ∧ w.heap[kb]? = some (Obj.cells C 5 fr) ∧ pv.ownBlock ≠ some kb) (hfit : B.length + ah.length + s.size + be.length ≤ 65536) :
    Calls Try.prog 24 #[.pointer (some ⟨mb, 0, none⟩), .string s, va, vb] w fun e w' => e = .returned (.tuple #[.int .i64 (B.length : Int), .int .i64 0]) ∧
      (∃ pv', Mk w' base mb bm pv' (B ++ ah ++ s.data.toList ++ be) (upd M s.data.toList B.length)) ∧ Below base w w' ∧ ∀ (k : Nat) C fr, w.heap[k]? = some (Obj.cells C 3 fr) → w'.heap[k]? = some (Obj.cells C 3 fr) := by
  obtain ⟨n, D, hn, ht, p0⟩ := h.ps
  have HP : Hid (Ps w w base mb bm pv pv B n D vb be) := ⟨p0.blk, p0.own, p0.map, p0.below, p0.ints, hb, hap, p0.mlo, p0.blo, p0.top⟩
  have HA : Hid (Bs w va ah) := ha
  obtain ⟨c0, c1, f0⟩ := p0.cells
  obtain ⟨pa, pc, hpv, hp1, hp2, -⟩ := p0.own.own.bs
  obtain ⟨aa, ac, hva, ha1, ha2, -⟩ := ha
  obtain ⟨ba, bc, hvb, hb1, hb2, -⟩ := hb
  have HT : Hid (Told D M) := ht
  have hhas : Maps.has D (.string s.data.toList) = false := by rw [ht.1, hM]; rfl
  have hslen : s.data.toList.length = s.size := toList_len s
  have HSL : Hid (s.data.toList.length = s.size) := hslen
  clear p0 h ht hM hslen hap
  subst hpv hva hvb
  have hz : s.size ≤ maxLen := by unfold maxLen; omega
  go_enter Try.func24, Try.ntmps24
  go_wp2_with (first
    | (at_lookup; go_must (refine wpList_lookup_own_ok_int _ rfl _ _ 56 rfl 9 3 .i64 Try.keyLaw Try.underlying56 Try.underlying3 (Try.zeroInt _) bm n D rfl HP.out.map _ _ rfl (Go.WideMaps.keyOf_string_mk Try.underlying9 hz) ?_; intro c hat hwc; clear hat hwc))
    | (at_builtin; go_must (refine wpList_append_at rfl _ _ _ _ rfl base 5 (.int .u8 0) 1 Try.underlying27 Try.infoU8 rfl rfl rfl HP.out.own (HA.out.src Try.underlying27) (by rw [u8s_length]; unfold maxLen; omega) (by rw [u8s_length]; omega) HP.out.top ?_)))
  intro v1 w1 ho1 hg1 hl1 hs1
  have HP1 : Hid (Ps w w1 base mb bm (.slice pa B.length pc) v1 (B ++ ah) n D (.slice ba be.length bc) be) := HP.out.append hg1 ho1 rfl hl1
  obtain ⟨av1, lv1, cv1, ev1⟩ := HP1.out.shape
  subst ev1
  obtain ⟨d0, d1, g0⟩ := HP1.out.cells
  have HP2 : Hid (Ps w (w1.setCell ⟨mb, 0, none⟩ (.slice av1 lv1 cv1)) base mb bm (.slice av1 lv1 cv1) (.slice av1 lv1 cv1) (B ++ ah) n D (.slice ba be.length bc) be) := HP1.out.store
  obtain ⟨i0, i1, j0⟩ := HP2.out.cells
  clear ho1 hg1 hl1 hs1 c0 c1 f0
  have hl1 : (B ++ ah).length = B.length + ah.length := by simp
  go_wp2_with (at_builtin; go_must (refine wpList_append_at rfl _ _ _ _ rfl base 5 (.int .u8 0) 1 Try.underlying27 Try.infoU8 rfl rfl rfl HP2.out.own (str_src _ Try.underlying9 s) (by rw [u8s_length]; unfold maxLen; omega) (by rw [u8s_length]; omega) HP2.out.top ?_))
  intro v2 w2 ho2 hg2 hl2 hs2
  have HP3 : Hid (Ps w w2 base mb bm (.slice av1 lv1 cv1) v2 (B ++ ah ++ s.data.toList) n D (.slice ba be.length bc) be) := HP2.out.append hg2 (by simpa only [List.append_assoc] using ho2) rfl (by simpa using hl2)
  obtain ⟨av2, lv2, cv2, ev2⟩ := HP3.out.shape
  subst ev2
  obtain ⟨k0, k1, m0⟩ := HP3.out.cells
  have HP4 : Hid (Ps w (w2.setCell ⟨mb, 0, none⟩ (.slice av2 lv2 cv2)) base mb bm (.slice av2 lv2 cv2) (.slice av2 lv2 cv2) (B ++ ah ++ s.data.toList) n D (.slice ba be.length bc) be) := HP3.out.store
  obtain ⟨o0, o1, q0⟩ := HP4.out.cells
  clear ho2 hg2 hl2 hs2 d0 d1 g0 i0 i1 j0
  have hl2 : (B ++ ah ++ s.data.toList).length = B.length + ah.length + s.size := by rw [List.length_append, hl1, HSL.out]
  go_wp2_with (at_builtin; go_must (refine wpList_append_at rfl _ _ _ _ rfl base 5 (.int .u8 0) 1 Try.underlying27 Try.infoU8 rfl rfl rfl HP4.out.own (HP4.out.beh.src Try.underlying27) (by rw [u8s_length]; unfold maxLen; omega) (by rw [u8s_length]; omega) HP4.out.top ?_))
  intro v3 w3 ho3 hg3 hl3 hs3
  have HP5 : Hid (Ps w w3 base mb bm (.slice av2 lv2 cv2) v3 (B ++ ah ++ s.data.toList ++ be) n D (.slice ba be.length bc) be) := HP4.out.append hg3 (by simpa only [List.append_assoc] using ho3) rfl (by simpa using hl3)
  obtain ⟨av3, lv3, cv3, ev3⟩ := HP5.out.shape
  subst ev3
  obtain ⟨d0, d1, g0⟩ := HP5.out.cells
  have HP6 : Hid (Ps w (w3.setCell ⟨mb, 0, none⟩ (.slice av3 lv3 cv3)) base mb bm (.slice av3 lv3 cv3) (.slice av3 lv3 cv3) (B ++ ah ++ s.data.toList ++ be) n D (.slice ba be.length bc) be) := HP5.out.store
  obtain ⟨i0, i1, j0⟩ := HP6.out.cells
  clear ho3 hg3 hl3 hs3 k0 k1 m0 o0 o1 q0
  go_wp2_with (at_mapUpdate; go_must (refine wpList_mapUpdate_own _ rfl _ _ _ 56 rfl 9 3 Try.keyLaw Try.underlying56 _ bm n D rfl HP6.out.map (by unfold maxLen; omega) _ _ _ rfl rfl (Go.WideMaps.keyOf_string_mk Try.underlying9 hz) _ [] (plainElem_int Try.underlying3 (WalkArith.wf_i64 (by omega))) ?_))
  intro w7 hm7 hg7
  have HQ : Hid _ := HP6.out.update HT.out (by rw [List.length_append, hl2]; omega) s.data.toList B.length hm7 hg7
  clear hm7 hg7 d0 d1 g0 i0 i1 j0
  go_wp2
  go_ret2
  exact ⟨rfl, ⟨_, HQ.out.1⟩, HQ.out.2.1, HQ.out.2.2⟩

end Go.Proofs.Ytlcfbnbbdpgjiaa
