
/- A pool in the making: newMaker and put. -/
import Derived.Test.YtlcfbnbbdpgjiaaRows
import Derived.Test.YtlcfbnbbdpgjiaaTexts
import Derived.Maps.Own
import Derived.Maps.OwnOps
import Derived.Maps.OwnSet
namespace Go.Proofs.Ytlcfbnbbdpgjiaa
set_option linter.unusedVariables false
set_option linter.unusedSimpArgs false
open Go.RowKit Go.Maps

theorem Try.keyLaw : Keyed Try.prog 9 := string_keyed Try.underlying9
theorem Try.zeroInt (w : World) : (zeroValue 3).run Try.prog w = .ok (.int .i64 0) w := by kernel_rfl

/-- What the map of a pool in the making says. -/
def Told (D : DataW Unit) (M : List UInt8 → Option Nat) : Prop :=
  (∀ s, Maps.has D (.string s) = (M s).isSome) ∧ ∀ s a, M s = some a → D.atKey (.string s) (.lit (.int .i64 0)) = .lit (.int .i64 (a : Int))
def upd (M : List UInt8 → Option Nat) (s : List UInt8) (n : Nat) : List UInt8 → Option Nat := fun x => if x = s then some n else M x

theorem Told.put {D : DataW Unit} {M : List UInt8 → Option Nat} (h : Told D M) (hD : IsMap D) (s : List UInt8) (n : Nat) : Told (D.put (.string s) (.lit (.int .i64 (n : Int)))) (upd M s n) := by
  refine ⟨fun x => ?_, fun x a hx => ?_⟩
  · by_cases e : x = s
    · subst e
      rw [has_put_same hD (by trivial)]; simp [upd]
    · rw [has_put_other (by simpa using e), h.1]; simp [upd, e]
  · by_cases e : x = s
    · subst e
      simp only [upd, if_true, Option.some.injEq] at hx
      subst hx
      rw [atKey_put_same hD (by trivial)]
    · rw [atKey_put_other (by simpa using e)]
      simp only [upd, if_neg e] at hx
      exact h.2 x a hx

/-- In block mb lies a pool in the making: its bytes B in the slice pv, its map in block bm; what is put behind next, if anything, lies apart. -/
structure Ps (w0 w : World) (base mb bm : Nat) (cv pv : Value) (X : List UInt8) (n : Nat) (D : DataW Unit) (vb : Value) (be : List UInt8) : Prop where
  blk : w.heap[mb]? = some (Obj.cells #[cv, .map (some bm)] 58 (0, 0))
  own : OwnV w base 5 pv (u8s X)
  map : w.ownsMap Try.prog 9 (plainElem Try.prog 3) bm n D
  below : Below base w0 w
  ints : ∀ (k : Nat) C fr, w0.heap[k]? = some (Obj.cells C 3 fr) → w.heap[k]? = some (Obj.cells C 3 fr)
  beh : Bs w vb be
  apart : be = [] ∨ ∃ (kb : Nat) (C : Array Value) (fr : Nat × Nat), vb.ownBlock = some kb ∧ w.heap[kb]? = some (Obj.cells C 5 fr) ∧ pv.ownBlock ≠ some kb
  mlo : base ≤ mb
  blo : base ≤ bm
  top : base ≤ w.heap.size

theorem Ps.cells {w0 w : World} {base mb bm : Nat} {cv pv : Value} {X : List UInt8} {n : Nat} {D : DataW Unit} {vb : Value} {be : List UInt8} (h : Ps w0 w base mb bm cv pv X n D vb be) :
    w.cell? ⟨mb, 0, none⟩ = some cv ∧ w.cell? ⟨mb, 1, none⟩ = some (.map (some bm)) ∧ w.frozen? ⟨mb, 0, none⟩ = false := by
  refine ⟨by simp [World.cell?, h.blk], by simp [World.cell?, h.blk], by simp [World.frozen?, h.blk]⟩

theorem Bs.or {w w' : World} {v : Value} {bs : List UInt8} (h : Bs w v bs) (hs : w.heap.size ≤ w'.heap.size) (hk : bs = [] ∨ ∃ kb, v.ownBlock = some kb ∧ w'.heap[kb]? = w.heap[kb]?) : Bs w' v bs := by
  rcases hk with rfl | ⟨kb, e, g⟩
  · obtain ⟨a, cap, rfl, h1, h2, h3⟩ := h
    exact ⟨a, cap, rfl, h1, h2, fun hne => absurd rfl hne⟩
  · refine h.of_block hs fun k hv hlt => ?_
    rw [e] at hv; simp only [Option.some.injEq] at hv; subst hv; exact g

theorem Ps.append {w0 w w1 : World} {base mb bm : Nat} {cv pv v1 : Value} {X ys : List UInt8} {news : List Value} {n : Nat} {D : DataW Unit} {vb : Value} {be : List UInt8} (h : Ps w0 w base mb bm cv pv X n D vb be)
    (hg : w.grownBy w1 pv.ownBlock) (ho : OwnV w1 base 5 v1 (u8s X ++ news)) (hn : news = u8s ys) (hl : v1.ownBlock = pv.ownBlock ∨ v1.ownBlock = some w.heap.size) : Ps w0 w1 base mb bm cv v1 (X ++ ys) n D vb be := by
  subst hn
  have hty : ∀ k, pv.ownBlock = some k → ∃ C, w.heap[k]? = some (Obj.cells C 5 (0, 0)) := h.own.typed
  have hother : ∀ (k : Nat) C t fr, w.heap[k]? = some (Obj.cells C t fr) → t ≠ 5 → w1.heap[k]? = some (Obj.cells C t fr) := by
    intro k C t fr hk ht
    rw [hg.block k (Array.getElem?_eq_some_iff.1 hk).1, hk]
    intro e
    obtain ⟨C', hC'⟩ := hty k e.symm
    rw [hk] at hC'
    simp only [Option.some.injEq, Obj.cells.injEq] at hC'
    exact ht hC'.2.1
  have hkb : be = [] ∨ ∃ (kb : Nat) (C : Array Value) (fr : Nat × Nat), vb.ownBlock = some kb ∧ w1.heap[kb]? = w.heap[kb]? ∧ w.heap[kb]? = some (Obj.cells C 5 fr) ∧ v1.ownBlock ≠ some kb := by
    rcases h.apart with e | ⟨kb, C, fr, e1, e2, e3⟩
    · exact .inl e
    · have hlt := (Array.getElem?_eq_some_iff.1 e2).1
      refine .inr ⟨kb, C, fr, e1, hg.block kb hlt (fun e => e3 e.symm), e2, ?_⟩
      rcases hl with hl | hl
      · rw [hl]; exact e3
      · rw [hl]; intro e; simp only [Option.some.injEq] at e; omega
  refine ⟨hother mb _ _ _ h.blk (by decide), by rw [u8s_append]; exact ho, h.map.kept hg ?_, below_grown h.below h.own h.top hg, fun k C fr hk => hother k C _ fr (h.ints k C fr hk) (by decide), ?_, ?_, h.mlo, h.blo, Nat.le_trans h.top hg.size⟩
  · intro e
    obtain ⟨C', hC'⟩ := hty bm e.symm
    obtain ⟨es, ck, hb, _⟩ := h.map
    rw [hb] at hC'; simp at hC'
  · exact h.beh.or hg.size (hkb.imp id fun ⟨kb, C, fr, e1, e2, _⟩ => ⟨kb, e1, e2⟩)
  · exact hkb.imp id fun ⟨kb, C, fr, e1, e2, e3, e4⟩ => ⟨kb, C, fr, e1, e2.trans e3, e4⟩

theorem Ps.store {w0 w : World} {base mb bm : Nat} {cv pv : Value} {X : List UInt8} {n : Nat} {D : DataW Unit} {vb : Value} {be : List UInt8} (h : Ps w0 w base mb bm cv pv X n D vb be) : Ps w0 (w.setCell ⟨mb, 0, none⟩ pv) base mb bm pv pv X n D vb be := by
  have hset : w.setCell ⟨mb, 0, none⟩ pv = w.setRow mb #[pv, .map (some bm)] := by
    rw [setCell_eq_setRow w mb 0 _ _ _ _ h.blk]; simp
  have hoth : ∀ k, k ≠ mb → (w.setCell ⟨mb, 0, none⟩ pv).heap[k]? = w.heap[k]? := fun k hk => Below.heap_setCell _ _ _ _ hk
  have hsz : (w.setCell ⟨mb, 0, none⟩ pv).heap.size = w.heap.size := by simp [World.setCell]
  have hother : ∀ (k : Nat) C t fr, w.heap[k]? = some (Obj.cells C t fr) → t ≠ 58 → (w.setCell ⟨mb, 0, none⟩ pv).heap[k]? = w.heap[k]? := by
    intro k C t fr hk ht
    refine hoth k fun e => ?_
    subst e
    rw [h.blk] at hk
    simp only [Option.some.injEq, Obj.cells.injEq] at hk
    exact ht hk.2.1.symm
  refine ⟨by rw [hset]; exact setRow_heap w mb _ _ _ _ h.blk, h.own.of_block fun k hk hlt => ?_, ?_, h.below.trans ⟨rfl, rfl, rfl, by omega, fun k hk => hoth k (by have := h.mlo; omega)⟩, fun k C fr hk => ?_, h.beh.or (by omega) ?_, ?_, h.mlo, h.blo, by rw [hsz]; exact h.top⟩
  · obtain ⟨C, hC⟩ := h.own.typed k hk
    exact hother k C _ _ hC (by decide)
  · refine h.map.setCell ?_ pv
    intro e
    have e' : bm = mb := e
    obtain ⟨es, ck, hb, _⟩ := h.map
    rw [e', h.blk] at hb; simp at hb
  · have := h.ints k C fr hk
    rw [hother k C _ fr this (by decide)]; exact this
  · exact h.apart.imp id fun ⟨kb, C, fr, e1, e2, e3⟩ => ⟨kb, e1, hother kb C _ fr e2 (by decide)⟩
  · exact h.apart.imp id fun ⟨kb, C, fr, e1, e2, e3⟩ => ⟨kb, C, fr, e1, (hother kb C _ fr e2 (by decide)).trans e2, e3⟩

/-- A pool in the making, between the calls of put. -/
structure Mk (w : World) (base mb bm : Nat) (pv : Value) (B : List UInt8) (M : List UInt8 → Option Nat) : Prop where
  ps : ∃ n D, n ≤ B.length ∧ Told D M ∧ Ps w w base mb bm pv pv B n D (.slice none 0 0) []

theorem Mk.later {w w' : World} {base mb bm : Nat} {pv : Value} {B : List UInt8} {M : List UInt8 → Option Nat} (h : Mk w base mb bm pv B M) (hb : Below w.heap.size w w') : Mk w' base mb bm pv B M := by
  obtain ⟨n, D, hn, ht, p⟩ := h.ps
  have hlt : mb < w.heap.size := (Array.getElem?_eq_some_iff.1 p.blk).1
  refine ⟨n, D, hn, ht, ⟨by rw [hb.block mb hlt]; exact p.blk, p.own.later hb, ?_, Below.refl _ _, fun _ _ _ h => h, p.beh.later hb, .inl rfl, p.mlo, p.blo, Nat.le_trans p.top hb.size⟩⟩
  obtain ⟨es, ck, hm, r⟩ := p.map
  exact ⟨es, ck, by rw [hb.block bm (Array.getElem?_eq_some_iff.1 hm).1]; exact hm, r⟩

set_option maxHeartbeats 400000 in
theorem put_old {w : World} {base mb bm : Nat} {pv : Value} {B : List UInt8} {M : List UInt8 → Option Nat} (h : Mk w base mb bm pv B M) (s : ByteArray) (hs : s.size ≤ maxLen) (a : Nat) (hM : M s.data.toList = some a) (va vb : Value) :
    Calls Try.prog 24 #[.pointer (some ⟨mb, 0, none⟩), .string s, va, vb] w fun e w' => e = .returned (.tuple #[.int .i64 (a : Int), .int .i64 0]) ∧ w' = w := by
  obtain ⟨n, D, hn, ht, p⟩ := h.ps
  obtain ⟨c0, c1, f0⟩ := p.cells
  have HM : Hid (w.ownsMap Try.prog 9 (plainElem Try.prog 3) bm n D) := p.map
  have hhas : Maps.has D (.string s.data.toList) = true := by rw [ht.1, hM]; rfl
  have HA : Hid (D.atKey (.string s.data.toList) (.lit (.int .i64 0)) = .lit (.int .i64 (a : Int))) := ht.2 _ _ hM
  clear p h ht hM
  go_enter Try.func24, Try.ntmps24
  go_wp2_with (at_lookup; go_must (refine wpList_lookup_own_ok_int _ rfl _ _ 56 rfl 9 3 .i64 Try.keyLaw Try.underlying56 Try.underlying3 (Try.zeroInt _) bm n D rfl HM.out _ _ rfl (Go.WideMaps.keyOf_string_mk Try.underlying9 hs) ?_; intro c hat hwc; obtain rfl : c = (a : Int) := by (have hat' := hat.symm.trans HA.out; simpa using hat')))
  go_ret2
  exact ⟨rfl, rfl⟩

end Go.Proofs.Ytlcfbnbbdpgjiaa
