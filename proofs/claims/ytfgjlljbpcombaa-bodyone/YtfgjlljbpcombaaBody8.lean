
/- The reader of bodies: body. -/
import Derived.Test.YtfgjlljbpcombaaClauses8
namespace Go.Proofs.Ytfgjlljbpcombaa
set_option linter.unusedVariables false
set_option linter.unusedSimpArgs false
open Go.RowKit
attribute [local go_sem ↓] Go.wp_at_zero Go.wp_at_succ

/-- Nothing that was there has turned, but for these blocks. -/
structure Onp (l : List Nat) (w w' : World) : Prop where
  os : w'.os = w.os
  tape : w'.tape = w.tape
  output : w'.output = w.output
  size : w.heap.size ≤ w'.heap.size
  block : ∀ k, k < w.heap.size → k ∉ l → w'.heap[k]? = w.heap[k]?
theorem Onp.refl (l : List Nat) (w : World) : Onp l w w := ⟨rfl, rfl, rfl, Nat.le_refl _, fun _ _ _ => rfl⟩
theorem Onp.trans {l : List Nat} {a b c : World} (h : Onp l a b) (k : Onp l b c) : Onp l a c :=
  ⟨k.os.trans h.os, k.tape.trans h.tape, k.output.trans h.output, Nat.le_trans h.size k.size, fun i hi hn => (k.block i (Nat.lt_of_lt_of_le hi h.size) hn).trans (h.block i hi hn)⟩
theorem Onp.of_below {l : List Nat} {w w' : World} (h : Below w.heap.size w w') : Onp l w w' := ⟨h.os, h.tape, h.output, h.size, fun k hk _ => h.block k hk⟩
theorem Onl.onp {l : List Nat} {rr rb : Nat} {w w' : World} (h : Onl rr rb w w') (h1 : rr ∈ l) (h2 : rb ∈ l) : Onp l w w' := ⟨h.os, h.tape, h.output, h.size, fun k hk hn => h.block k hk (fun e => hn (e ▸ h1)) (fun e => hn (e ▸ h2))⟩
theorem Onp.setCell {l : List Nat} {a w : World} (h : Onp l a w) {g : Nat} (hg : g ∈ l) (o : Nat) (u : Value) : Onp l a (w.setCell ⟨g, o, none⟩ u) :=
  h.trans ⟨rfl, rfl, rfl, by simp [World.setCell], fun k _ hn => Below.heap_setCell _ _ _ _ (fun e => hn (e ▸ hg))⟩
theorem Onp.onl {l : List Nat} {rr rb : Nat} {w w' : World} (h : Onp l w w') (hl : ∀ k, k ∈ l → k < w.heap.size → k = rr ∨ k = rb) : Onl rr rb w w' :=
  ⟨h.os, h.tape, h.output, h.size, fun k hk h1 h2 => h.block k hk fun hm => by rcases hl k hm hk with e | e <;> contradiction⟩
theorem At.onp {w w' : World} {g : Nat} {l : List Nat} {C : Array Value} {t : TypeId} (h : At w g C t) (ho : Onp l w w') (hn : g ∉ l) : At w' g C t := by
  have := h.lt
  unfold At at h ⊢
  rw [ho.block g this hn]; exact h
theorem Bs.onp {w w' : World} {v : Value} {bs : List UInt8} {l : List Nat} (h : Bs w v bs) (ho : Onp l w w') (hn : bs ≠ [] → ∀ k, v.ownBlock = some k → k ∉ l) : Bs w' v bs := by
  by_cases hb : bs = []
  · subst hb
    obtain ⟨a, cap, rfl, h1, h2, h3⟩ := h
    exact ⟨a, cap, rfl, h1, h2, fun hne => absurd rfl hne⟩
  · exact h.of_block ho.size fun k hv hlt => ho.block k hlt (hn hb k hv)
theorem Ws.onp {w w' : World} {v : Value} {r : List Rw} {l : List Nat} (h : Ws w v r) (ho : Onp l w w') (hn : ∀ k, v.ownBlock = some k → k ∉ l) : Ws w' v r :=
  h.of_block ho.size fun k hv hlt => ho.block k hlt (hn k hv)
theorem Bs.blk {w : World} {v : Value} {bs : List UInt8} (h : Bs w v bs) : bs ≠ [] → ∀ k, v.ownBlock = some k → k < w.heap.size := by
  obtain ⟨a, cap, rfl, h1, h2, h3⟩ := h
  intro hne k hk
  obtain ⟨b, off, rfl, hb, _⟩ := h3 hne
  simp [Value.ownBlock] at hk
  omega
theorem Bs.shape {w : World} {v : Value} {bs : List UInt8} (h : Bs w v bs) : ∃ a c, v = .slice a bs.length c ∧ bs.length ≤ c ∧ c ≤ maxLen := by
  obtain ⟨a, c, h1, h2, h3, _⟩ := h
  exact ⟨a, c, h1, h2, h3⟩

/-- What body leaves. -/
structure GotB (w w' : World) (rr rb : Nat) (bs : List UInt8) (al : Bool) (e : Ending) : Prop where
  val : ∃ cv kv, e = .returned (.agg #[cv, kv]) ∧ Bs w' cv (rdC bs al) ∧ Ws w' kv (rdK bs al)
  rx : Rx w' rr rb bs (rdS bs al)
  onl : Onl rr rb w w'

set_option maxHeartbeats 2000000 in
set_option maxRecDepth 100000 in
theorem body_small {w : World} {rr rb : Nat} {bs : List UInt8} (h : Rx w rr rb bs (0, 0)) (at_ : Nat) (al : Bool) (hf : boF bs % 4 = 2) :
    Calls Try.prog 26 #[.pointer (some ⟨rr, 0, none⟩), .int .i64 (at_ : Int)] w fun e w' => GotB w w' rr rb bs al e := by
  have hrr := h.box.lt
  have hlt := h.lt
  obtain ⟨wa, hwa⟩ : ∃ W, W = w.alloc (.cells #[.slice none 0 0, .slice none 0 0] 25) := ⟨_, rfl⟩
  have hb0 : Below w.heap.size w wa := by rw [hwa]; exact (Below.refl _ _).alloc (Nat.le_refl _) _
  have hA0 : At wa w.heap.size #[.slice none 0 0, .slice none 0 0] 25 := by rw [hwa]; exact At.made _ _ _
  have hsa : w.heap.size + 1 ≤ wa.heap.size := by rw [hwa]; simp
  have HV : Hid (rdC bs al = coL bs (bo1 bs) (boF bs / 4) ∧ rdK bs al = [] ∧ rdS bs al = coS bs (bo1 bs) (boF bs / 4)) := ⟨by simp [rdC, hf], by simp [rdK, hf], by simp [rdS, hf]⟩
  have hfl : boF bs < 4294967296 := nuV_lt _ _ _ (by omega)
  obtain ⟨g, hg⟩ : ∃ g, g = w.heap.size := ⟨_, rfl⟩
  have HN : Hid (Calls Try.prog 37 #[.pointer (some ⟨rr, 0, none⟩), .int .i64 1] wa fun e w' => e = .returned (.int .i64 (boF bs : Int)) ∧ Rx w' rr rb bs (bo1 bs) ∧ Onp [rr, rb, g] w w' ∧ At w' g #[.slice none 0 0, .slice none 0 0] 25 ∧ g < w'.heap.size) := by
    refine (number8_any (h.later hb0) 1 (by omega)).mono ?_
    rintro e w' ⟨rfl, g1, g2⟩
    refine ⟨rfl, g1, (Onp.of_below hb0).trans (g2.onp (by simp) (by simp)), ?_, by have := g2.size; omega⟩
    rw [hg]
    exact hA0.onl g2 (by omega) (by omega)
  have HGE : Hid (rr < g ∧ rb < g ∧ g = w.heap.size) := ⟨by omega, by omega, hg⟩
  have HC : Hid (∀ W, Rx W rr rb bs (bo1 bs) → Calls Try.prog 38 #[.pointer (some ⟨rr, 0, none⟩), .int .i64 ((boF bs / 4 : Nat) : Int)] W fun e w' => GotC W w' rr rb bs (bo1 bs) (boF bs / 4) e) := fun W hW => code8_any hW _ (by omega)
  have hq : ((boF bs / 4 : Nat) : Int) = (boF bs : Int) / 4 := by omega
  rw [hq] at HC
  clear hq h hb0 hA0 hsa hrr hlt
  generalize boF bs = f at *
  have hf' : (f : Int) % 4 = 2 := by omega
  clear hf
  go_enter Try.func26, Try.ntmps26
  go_wp2_with fail
  rw [← hwa, ← hg]
  clear hwa
  refine Calls.mono HN.out ?_
  rintro e w1 ⟨rfl, h1, h2, h3, h4⟩
  have HC1 : Hid (Calls Try.prog 38 #[.pointer (some ⟨rr, 0, none⟩), .int .i64 ((f : Int) / 4)] w1 fun e w' => GotC w1 w' rr rb bs (bo1 bs) (f / 4) e) := HC.out w1 h1
  have HO1 : Hid (Onp [rr, rb, g] w w1) := h2
  have HA1 : Hid (At w1 g #[.slice none 0 0, .slice none 0 0] 25) := h3
  have HS1 : Hid (g < w1.heap.size) := h4
  clear HC HN h1 h2 h3 h4 hg
  go_wp2_with fail
  refine Calls.mono HC1.out ?_
  rintro e w2 ⟨⟨cv, rfl, hc1, hc2⟩, hx, ho⟩
  obtain ⟨ca, cc, rfl, hl1, hl2⟩ := hc1.shape
  obtain ⟨e1, e2, e3⟩ := HGE.out
  have hA2 := HA1.out.onl ho (by omega) (by omega)
  have tc := hA2.cell
  have tm := hA2.melt
  obtain ⟨cl, hcl⟩ : ∃ n, n = (coL bs (bo1 bs) (f / 4)).length := ⟨_, rfl⟩
  rw [← hcl] at hc1 hc2 hl1 ⊢
  have hon : Onp [rr, rb, g] w2 ((w2.setCell ⟨g, 0, none⟩ (.slice ca cl cc)).setCell ⟨g, 1, none⟩ (.slice none 0 0)) := ((Onp.refl _ _).setCell (by simp) _ _).setCell (by simp) _ _
  have HB : Hid (Bs ((w2.setCell ⟨g, 0, none⟩ (.slice ca cl cc)).setCell ⟨g, 1, none⟩ (.slice none 0 0)) (.slice ca cl cc) (rdC bs al)) := by
    show Bs _ _ _
    rw [HV.out.1]
    refine hc1.onp hon fun _ k hk => ?_
    have := hc2 k hk
    have := HS1.out
    simp
    omega
  have HX : Hid (Rx ((w2.setCell ⟨g, 0, none⟩ (.slice ca cl cc)).setCell ⟨g, 1, none⟩ (.slice none 0 0)) rr rb bs (rdS bs al)) := by
    show Rx _ _ _ _ _
    rw [HV.out.2.2]
    exact hx.below (((Below.refl g w2).setCell (by simp) _).setCell (by simp) _) e1
  have HO : Hid (Onl rr rb w ((w2.setCell ⟨g, 0, none⟩ (.slice ca cl cc)).setCell ⟨g, 1, none⟩ (.slice none 0 0))) := by
    refine ((HO1.out.trans (ho.onp (by simp) (by simp))).trans hon).onl fun k hk hlt => ?_
    simp at hk
    omega
  have hA3 := (((hA2.set 0 (.slice ca cl cc)).set 1 (.slice none 0 0))).cell
  have HF : ∀ o, ((w2.setCell ⟨g, 0, none⟩ (.slice ca cl cc)).setCell ⟨g, 1, none⟩ (.slice none 0 0)).cell? ⟨g, o, none⟩ = (#[.slice ca cl cc, .slice none 0 0] : Array Value)[o]? := fun o => by rw [hA3]; rfl
  have HFF : Hid (∀ o, ((w2.setCell ⟨g, 0, none⟩ (.slice ca cl cc)).setCell ⟨g, 1, none⟩ (.slice none 0 0)).cell? ⟨g, o, none⟩ = (#[.slice ca cl cc, .slice none 0 0] : Array Value)[o]?) := HF
  clear hc1 hc2 hx ho hA2 hcl hon hA3 HF e1 e2 e3 hl1 hl2
  go_wp2
  have HF := HFF.out
  exact bodyPost_ret (v := .agg #[.slice ca cl cc, .slice none 0 0]) (by simp [results, Try.results26, go_sem, HF]) rfl ⟨⟨_, _, rfl, HB.out, by rw [HV.out.2.1]; exact Ws.nil _⟩, HX.out, HO.out⟩

end Go.Proofs.Ytfgjlljbpcombaa
