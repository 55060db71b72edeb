
/- Texts as lists of bytes, as the statements of layer 2 make them. -/
import Derived.Test.YtlcfbnbbdpgjiaaRows
import Derived.Test.YtlcfbnbbdpgjiaaInts
namespace Go.Proofs.Ytlcfbnbbdpgjiaa
set_option linter.unusedVariables false
set_option linter.unusedSimpArgs false
open Go.RowKit

theorem Try.infoBs : (Try.prog.info? 27).map (fun i => (i.zero, i.size, i.bytes)) = some (some (.slice none 0 0), 1, 24) := by kernel_rfl

/-- A text's bytes in a row of their own. -/
def Txt (w : World) (v : Value) (s : ByteArray) : Prop :=
  ∃ g cap C fr, v = .slice (some ⟨g, 0, none⟩) s.size cap ∧ s.size ≤ cap ∧ cap ≤ maxLen ∧ w.heap[g]? = some (.cells C 5 fr) ∧ ∀ i (h : i < s.size), C[i]? = some (.int .u8 (s[i].toNat : Int))

theorem Txt.bs {w : World} {v : Value} {s : ByteArray} (h : Txt w v s) : Bs w v s.data.toList := by
  obtain ⟨g, cap, C, fr, rfl, h1, h2, h3, h4⟩ := h
  refine ⟨_, cap, by rw [toList_len], by rw [toList_len]; exact h1, h2, fun _ => ⟨g, 0, rfl, (Array.getElem?_eq_some_iff.1 h3).1, fun i hi => ?_⟩⟩
  have hi' : i < s.size := by rw [toList_len] at hi; exact hi
  simp only [World.cell?, h3, Nat.zero_add]
  rw [str_get s i hi']
  exact h4 i hi'
theorem Txt.kept {w w' : World} {v : Value} {s : ByteArray} {row : Option Nat} (h : Txt w v s) (hg : w.grownBy w' row) (hr : ∀ k, row = some k → ∃ C fr t, w.heap[k]? = some (.cells C t fr) ∧ t ≠ 5) : Txt w' v s := by
  obtain ⟨g, cap, C, fr, rfl, h1, h2, h3, h4⟩ := h
  refine ⟨g, cap, C, fr, rfl, h1, h2, ?_, h4⟩
  rw [hg.block g (Array.getElem?_eq_some_iff.1 h3).1, h3]
  intro e
  obtain ⟨C', fr', t, k1, k2⟩ := hr g e.symm
  rw [h3] at k1
  simp only [Option.some.injEq, Obj.cells.injEq] at k1
  exact k2 k1.2.1.symm
theorem Txt.later {w w' : World} {v : Value} {s : ByteArray} (h : Txt w v s) (hb : Below w.heap.size w w') : Txt w' v s := by
  obtain ⟨g, cap, C, fr, rfl, h1, h2, h3, h4⟩ := h
  exact ⟨g, cap, C, fr, rfl, h1, h2, by rw [hb.block g (Array.getElem?_eq_some_iff.1 h3).1, h3], h4⟩

theorem below_two (w : World) (A B : Obj) : Below w.heap.size w ((w.alloc A).alloc B).drew :=
  Below.drewN (((Below.refl _ _).alloc (Nat.le_refl _) A).alloc (by simp) B) 1

theorem txt_new (w : World) (s : ByteArray) (cap : Nat) (fr : Nat × Nat) (B : Obj) (h1 : s.size ≤ cap) (h2 : cap ≤ maxLen) :
    Txt ((w.alloc (.cells (bytesRow s cap) 5 fr)).alloc B).drew (.slice (some ⟨w.heap.size, 0, none⟩) s.size cap) s := by
  refine ⟨w.heap.size, cap, bytesRow s cap, fr, rfl, h1, h2, ?_, fun i hi => ?_⟩
  · have := heap_alloc_old (w.alloc (.cells (bytesRow s cap) 5 fr)) B (r := w.heap.size) (by simp)
    exact this.trans (heap_alloc_new w _)
  · rw [bytesRow_at s cap i hi]; rfl

/-- The block of one cell that an append of one value lays. -/
theorem one_src {P : Program} {tx e' : TypeId} (hk : P.underlying tx = some (.slice e')) (w : World) (x : Value) (e : TypeId) (g : Nat) (hg : g = w.heap.size) (h1 : x.oneCell' = true) : Src P 1 tx (.slice (some ⟨g, 0, none⟩) 1 1) 1 [x] (w.alloc (.cells #[x] e)).drew := by
  subst hg
  exact ((Sl.made w [x] #[x] e 1 rfl rfl (by simp [maxLen])).drewN 1).src hk (by intro u hu; simp at hu; subst hu; exact h1)

theorem below_grown {B : Nat} {a w w' : World} {e : TypeId} {v : Value} {xs : List Value} (h : Below B a w) (ho : OwnV w B e v xs) (hs : B ≤ w.heap.size) (hg : w.grownBy w' v.ownBlock) : Below B a w' :=
  h.trans ⟨hg.os, hg.tape, hg.output, hg.size, fun k hk => hg.block k (by omega) (fun e => by have := (ho.block k e.symm).1; omega)⟩

theorem texts_step {wr w3 : World} {base k : Nat} {o val : Value} {vs : List Value} {ss : List ByteArray} {A B : Obj} (HO : OwnV wr base 27 o vs) (hvk : vs.length = k) (hlt : k < ss.length)
    (HT : ∀ j (h : j < ss.length) (g : j < vs.length), Txt wr vs[j] ss[j]) (hval : Txt ((wr.alloc A).alloc B).drew val ss[k]) (hg : ((wr.alloc A).alloc B).drew.grownBy w3 o.ownBlock) :
    ∀ j (h : j < ss.length) (g : j < (vs ++ [val]).length), Txt w3 (vs ++ [val])[j] ss[j] := by
  have hr : ∀ k, o.ownBlock = some k → ∃ C fr t, ((wr.alloc A).alloc B).drew.heap[k]? = some (.cells C t fr) ∧ t ≠ 5 := fun k hk => by
    obtain ⟨C, hC⟩ := (HO.later (below_two wr A B)).typed k hk
    exact ⟨C, (0, 0), 27, hC, by decide⟩
  intro j h g
  by_cases hj : j < vs.length
  · rw [List.getElem_append_left hj]
    exact ((HT j h hj).later (below_two wr A B)).kept hg hr
  · have e : j = k := by simp at g; omega
    subst e
    rw [List.getElem_append_right (by omega)]
    simp only [hvk, Nat.sub_self, List.getElem_singleton]
    exact hval.kept hg hr

theorem texts_none (a : Option Addr) (cap : Nat) (w : World) :
    Calls Try.prog 10 #[.slice a 0 cap] w fun e w' => e = .returned (.slice none 0 0) ∧ w' = w := by
  go_enter Try.func10, Try.ntmps10
  go_wp2
  refine wp_loop_rounds 1 ?_; rw [rounds_succ]
  go_wp2
  go_ret
  exact ⟨rfl, rfl⟩

set_option maxHeartbeats 1000000 in
theorem texts_some (b off cap : Nat) (ss : List ByteArray) (w : World) (hn : ss.length ≤ 8796093021952) (hz : ∀ i (h : i < ss.length), ss[i].size ≤ maxLen) (hbl : b < w.heap.size)
    (hc : ∀ i (h : i < ss.length), w.cell? ⟨b, off + i, none⟩ = some (.string ss[i])) :
    Calls Try.prog 10 #[.slice (some ⟨b, off, none⟩) ss.length cap] w fun e w' => ∃ v, e = .returned v ∧ Bss w' v (ss.map fun s => s.data.toList) ∧ Below w.heap.size w w' := by
  have HC : Hid (∀ i (h : i < ss.length), w.cell? ⟨b, off + i, none⟩ = some (.string ss[i])) := hc
  have HZ : Hid (∀ i (h : i < ss.length), ss[i].size ≤ maxLen) := hz
  clear hc hz
  go_enter Try.func10, Try.ntmps10
  go_wp2
  go_loopw [3, 8] (fun o i wr => ∃ (k : Nat) (vs : List Value), k ≤ ss.length ∧ i = .int .i64 k ∧ vs.length = k ∧ OwnV wr w.heap.size 27 o vs ∧ Below w.heap.size w wr ∧ ∀ j (h : j < ss.length) (g : j < vs.length), Txt wr vs[j] ss[j]) (fun _ i _ => ss.length - (intOf i).toNat)
  case atStart => exact ⟨0, [], Nat.zero_le _, rfl, rfl, OwnV.nil _ _ _, Below.refl _ _, fun j _ g => by simp at g⟩
  case round =>
    obtain ⟨k, vs, hk, rfl, hvk, hown, hbel, htx⟩ := hrel
    have HO : Hid (OwnV wr w.heap.size 27 u3 vs) := hown
    have HB : Hid (Below w.heap.size w wr) := hbel
    have HT : Hid (∀ j (h : j < ss.length) (g : j < vs.length), Txt wr vs[j] ss[j]) := htx
    have hws := hbel.size
    clear hown hbel htx
    by_cases hlt : k < ss.length
    · have hcell : wr.cell? ⟨b, off + k, none⟩ = some (.string ss[k]) := by
        rw [← HC.out k hlt]; exact World.cell?_of_block (HB.out.block b hbl)
      have hcv := fun w => run_bytes_of_string (P := Try.prog) w 9 27 5 ss[k] Try.underlying9 Try.underlying27 Try.underlying5
      have HK : Hid (ss[k].size ≤ maxLen) := HZ.out k hlt
      go_wp2_with (at_builtin; go_must (refine wpList_append_at rfl _ _ _ _ rfl w.heap.size 27 (.slice none 0 0) 24 Try.underlying25 Try.infoBs rfl rfl rfl (HO.out.later (below_two _ _ _)) (one_src Try.underlying25 _ _ _ _ (by simp) rfl) (by unfold maxLen; omega) (by omega) (by first | (simp; omega) | omega) ?_; intro v3 w3 ho3 hg3 hl3 hs3))
      have hg : ((wr.alloc (.cells (bytesRow ss[k] (grownCap wr ss[k].size 0 5)) 5 ((bytesRow ss[k] (grownCap wr ss[k].size 0 5)).size, (bytesRow ss[k] (grownCap wr ss[k].size 0 5)).size + 1))).alloc (.cells #[.slice (some ⟨wr.heap.size, 0, none⟩) ss[k].size (grownCap wr ss[k].size 0 5)] 27)).drew.grownBy w3 u3.ownBlock := hg3
      clear hg3 hl3
      have hval := txt_new wr ss[k] (grownCap wr ss[k].size 0 5) ((bytesRow ss[k] (grownCap wr ss[k].size 0 5)).size, (bytesRow ss[k] (grownCap wr ss[k].size 0 5)).size + 1) (.cells #[.slice (some ⟨wr.heap.size, 0, none⟩) ss[k].size (grownCap wr ss[k].size 0 5)] 27) (grownCap_ge wr _ 0 _) (grownCap_le_maxLen wr _ 0 _ HK.out)
      have HS : Hid _ := texts_step HO.out hvk hlt HT.out hval hg
      have HN : Hid (Below w.heap.size w w3) := below_grown (HB.out.trans ((below_two wr _ _).mono hws)) (HO.out.later (below_two wr _ _)) (by simp; omega) hg
      have HO3 : Hid _ := ho3
      clear ho3 hval hg hcv
      go_roundw
      case rel => exact ⟨k + 1, _, by omega, by go_num, by simp [hvk], HO3.out, HN.out, HS.out⟩
      case measure => simp [intOf]; omega
    · have e : k = ss.length := by omega
      go_wp2
      go_ret
      refine ⟨_, rfl, ⟨vs, by simp; omega, HO.out.sl, fun i h g => ?_⟩, HB.out⟩
      simp at h
      have := (HT.out i h g).bs
      simpa using this

/-- The list of bytes of any texts. -/
theorem texts_any {v : Value} {ss : List ByteArray} {w : World} (h : Ss w v ss) (hn : ss.length ≤ 8796093021952) (hz : ∀ s ∈ ss, s.size ≤ maxLen) :
    Calls Try.prog 10 #[v] w fun e w' => ∃ v', e = .returned v' ∧ Bss w' v' (ss.map fun s => s.data.toList) ∧ Below w.heap.size w w' := by
  obtain ⟨a, cap, rfl, h1, h2, h3⟩ := h
  rw [strs_length]
  by_cases h0 : ss = []
  · subst h0
    refine (texts_none a cap w).mono ?_
    rintro e w' ⟨rfl, rfl⟩
    exact ⟨_, rfl, ⟨[], rfl, Sl.nil _, fun i h => by simp at h⟩, Below.refl _ _⟩
  · obtain ⟨b, off, rfl, hb, hc⟩ := h3 (by simpa [strs] using h0)
    exact texts_some b off cap ss w hn (fun i h => hz _ (List.getElem_mem _)) hb (fun i h => by rw [hc i (by rw [strs_length]; exact h)]; simp [strs])

end Go.Proofs.Ytlcfbnbbdpgjiaa
