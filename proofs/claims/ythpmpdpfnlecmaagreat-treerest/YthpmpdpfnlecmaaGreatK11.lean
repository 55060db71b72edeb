/- Texts joined: All9, Ints7, Kind11. -/
import Derived.Test.YthpmpdpfnlecmaaGreatK10
import Derived.Test.YthpmpdpfnlecmaaGreatK09
import Derived.Test.YthpmpdpfnlecmaaGreatK02
import Derived.Test.YthpmpdpfnlecmaaGreatK01
namespace Go.Proofs.YthpmpdpfnlecmaaGreat
set_option linter.unusedVariables false
set_option linter.unusedSimpArgs false
open Go.RowKit
attribute [local go_sem ↓] Go.wp_at_zero Go.wp_at_succ
theorem any_not9 {α : Type} (p : α → Bool) : ∀ l : List α, l.all p = !(l.any fun x => !p x)
 | [] => rfl
 | x :: r => by rw [List.all_cons, List.any_cons, any_not9 p r]; cases p x <;> simp
/-- One cell in a block of its own. -/
theorem At.cell0 {w : World} {g : Nat} {v : Value} {t : TypeId} (h : At w g #[v] t) : w.cell? ⟨g, 0, none⟩ = some v := h.cell 0
theorem At.box2 {w : World} {g : Nat} {a b : Value} {t : TypeId} (h : At w g #[a, b] t) : w.cell? ⟨g, 0, none⟩ = some a ∧ w.cell? ⟨g, 1, none⟩ = some b := ⟨h.cell 0, h.cell 1⟩
/-- A new block, and what else there was. -/
theorem made_below (w : World) (C : Array Value) (t : TypeId) : Below w.heap.size w (w.alloc (.cells C t)) := (Below.refl _ _).alloc (Nat.le_refl _) _

set_option maxHeartbeats 1000000 in
theorem all1S_any {x : Sp} {g : Nat} {w : World} {f : FuncId} {bs cs : Array Value} {y : Bool} (hg : w.cell? ⟨g, 0, none⟩ = some (.func (.func f) bs cs)) (hlt : g < w.heap.size)
  (hen : ∀ args W, (callFunc f args).run Tryz.prog W = .ok (.enter f args) W) (hc : ∀ W, Below w.heap.size w W → Calls Tryz.prog f (bs.push (spV9 x) ++ cs) W fun e w' => e = .returned (.bool y) ∧ Below W.heap.size W w') :
  Calls Tryz.prog 263 #[spV9 x, .pointer (some ⟨g, 0, none⟩)] w fun e w' => e = .returned (.bool (!y)) ∧ Below w.heap.size w w' := by
 have HC : Hid (∀ W, Below w.heap.size w W → Calls Tryz.prog f (bs.push (spV9 x) ++ cs) W fun e w' => e = .returned (.bool y) ∧ Below W.heap.size W w') := hc
 obtain ⟨w0, hw0⟩ : ∃ W, W = w.alloc (.cells #[.int .i64 x.1, .int .i64 x.2] 202) := ⟨_, rfl⟩
 have HW0 : Hid (w0 = _) := hw0
 have hb0 : Below w.heap.size w w0 := by rw [hw0]; exact made_below _ _ _
 have HB0 : Hid (Below w.heap.size w w0) := hb0
 have hA : At w0 w.heap.size #[.int .i64 x.1, .int .i64 x.2] 202 := by rw [hw0]; exact At.made w _ _
 have hg0 : w0.cell? ⟨g, 0, none⟩ = some (.func (.func f) bs cs) := by rw [← hg]; exact hb0.cell (p := ⟨g, 0, none⟩) hlt
 have HCL : Hid (Calls Tryz.prog f (bs.push (.agg #[.int .i64 x.1, .int .i64 x.2]) ++ cs) w0 fun e w' => e = .returned (.bool y) ∧ Below w0.heap.size w0 w') := hc w0 hb0
 obtain ⟨c0, c1⟩ := hA.box2
 clear hc hg hw0 hb0 hA
 unfold spV9
 go_enter Tryz.func263, Tryz.ntmps263
 go_wp2_with (rw [← HW0.out])
 refine Calls.mono HCL.out ?_
 rintro e w1 ⟨rfl, hb1⟩
 have HB1 : Hid (Below w.heap.size w w1) := bstep HB0.out hb1
 clear hb1
 go_wp2
 go_ret
 exact ⟨rfl, HB1.out⟩

set_option maxHeartbeats 1000000 in
theorem allS_any {v : Value} {l : List Sp} {w : World} (hX : Es spE w v l) {f : FuncId} {bs cs : Array Value} {p : Sp → Bool} (hf : Tells Tryz.prog spV9 w f bs cs p l) :
  Calls Tryz.prog 251 #[v, .func (.func f) bs cs] w fun e w' => e = .returned (.bool (l.all p)) ∧ Below w.heap.size w w' := by
 have HR : Hid (l.all p = !(l.any fun x => !p x)) := any_not9 p l
 obtain ⟨w0, hw0⟩ : ∃ W, W = w.alloc (.cells #[.func (.func f) bs cs] 205) := ⟨_, rfl⟩
 have HW0 : Hid (w0 = _) := hw0
 have hb0 : Below w.heap.size w w0 := by rw [hw0]; exact made_below _ _ _
 have HB0 : Hid (Below w.heap.size w w0) := hb0
 have hA : At w0 w.heap.size #[.func (.func f) bs cs] 205 := by rw [hw0]; exact At.made w _ _
 have HCo : Hid (Calls Tryz.prog 249 #[v, .func (.func 263) #[] #[.pointer (some ⟨w.heap.size, 0, none⟩)]] w0 fun e w' => e = .returned (.bool (l.any fun x => !p x)) ∧ Below w0.heap.size w0 w') := by
  refine containsS_any (hX.later hb0) ⟨run_enter9 Tryz.func263 (by kernel_rfl) rfl, fun W hW x hx => ?_⟩
  have hA1 := hA.later hW
  have := all1S_any (x := x) (w := W) hA1.cell0 hA1.lt hf.enter (fun W2 hW2 => hf.tells W2 (bstep (bstep hb0 hW) hW2) x hx)
  simpa using this
 clear hw0 hb0 hA hX hf
 go_enter Tryz.func251, Tryz.ntmps251
 go_wp2_with (rw [← HW0.out])
 refine Calls.mono HCo.out ?_
 rintro e w1 ⟨rfl, hb1⟩
 have HB1 : Hid (Below w.heap.size w w1) := bstep HB0.out hb1
 clear hb1
 go_wp2
 go_ret
 exact ⟨ret_bool HR.out.symm, HB1.out⟩

/-- A span that shares, as a function value. -/
theorem tells_shares (s : Sp) (w : World) (l : List Sp) : Tells Tryz.prog spV9 w 254 #[spV9 s] #[] (shrB s) l :=
 ⟨run_enter9 Tryz.func254 (by kernel_rfl) rfl, fun W _ x _ => by simpa using shares9_any s x W⟩

set_option maxHeartbeats 1000000 in
theorem meet1_any {x : Sp} {g : Nat} {vb : Value} {lb : List Sp} {w : World} (hg : w.cell? ⟨g, 0, none⟩ = some vb) (hlt : g < w.heap.size) (hb : Es spE w vb lb) :
  Calls Tryz.prog 261 #[spV9 x, .pointer (some ⟨g, 0, none⟩)] w fun e w' => e = .returned (.bool (lb.any (shrB x))) ∧ Below w.heap.size w w' := by
 obtain ⟨w0, hw0⟩ : ∃ W, W = w.alloc (.cells #[.int .i64 x.1, .int .i64 x.2] 202) := ⟨_, rfl⟩
 have HW0 : Hid (w0 = _) := hw0
 have hb0 : Below w.heap.size w w0 := by rw [hw0]; exact made_below _ _ _
 have HB0 : Hid (Below w.heap.size w w0) := hb0
 have hA : At w0 w.heap.size #[.int .i64 x.1, .int .i64 x.2] 202 := by rw [hw0]; exact At.made w _ _
 have hg0 : w0.cell? ⟨g, 0, none⟩ = some vb := by rw [← hg]; exact hb0.cell (p := ⟨g, 0, none⟩) hlt
 have HCo : Hid (Calls Tryz.prog 249 #[vb, .func (.func 254) #[.agg #[.int .i64 x.1, .int .i64 x.2]] #[]] w0 fun e w' => e = .returned (.bool (lb.any (shrB x))) ∧ Below w0.heap.size w0 w') := containsS_any (hb.later hb0) (tells_shares x w0 lb)
 obtain ⟨c0, c1⟩ := hA.box2
 obtain ⟨va, vc, hvb, _, _⟩ := hb.shape
 clear hb hg hw0 hb0 hA
 subst hvb
 unfold spV9
 go_enter Tryz.func261, Tryz.ntmps261
 go_wp2_with (rw [← HW0.out])
 refine Calls.mono HCo.out ?_
 rintro e w1 ⟨rfl, hb1⟩
 have HB1 : Hid (Below w.heap.size w w1) := bstep HB0.out hb1
 clear hb1
 go_wp2
 go_ret
 exact ⟨rfl, HB1.out⟩

set_option maxHeartbeats 1000000 in
theorem meet_any {va vb : Value} {la lb : List Sp} {w : World} (ha : Es spE w va la) (hb : Es spE w vb lb) :
  Calls Tryz.prog 248 #[va, vb] w fun e w' => e = .returned (.bool (meetB la lb)) ∧ Below w.heap.size w w' := by
 obtain ⟨w0, hw0⟩ : ∃ W, W = w.alloc (.cells #[vb] 187) := ⟨_, rfl⟩
 have HW0 : Hid (w0 = _) := hw0
 have hb0 : Below w.heap.size w w0 := by rw [hw0]; exact made_below _ _ _
 have HB0 : Hid (Below w.heap.size w w0) := hb0
 have hA : At w0 w.heap.size #[vb] 187 := by rw [hw0]; exact At.made w _ _
 have HCo : Hid (Calls Tryz.prog 249 #[va, .func (.func 261) #[] #[.pointer (some ⟨w.heap.size, 0, none⟩)]] w0 fun e w' => e = .returned (.bool (meetB la lb)) ∧ Below w0.heap.size w0 w') := by
  refine containsS_any (ha.later hb0) ⟨run_enter9 Tryz.func261 (by kernel_rfl) rfl, fun W hW x hx => ?_⟩
  have hA1 := hA.later hW
  have := meet1_any (x := x) (w := W) hA1.cell0 hA1.lt ((hb.later hb0).later hW)
  simpa using this
 obtain ⟨aa, ca, hva, _, _⟩ := ha.shape
 obtain ⟨ab, cb, hvb, _, _⟩ := hb.shape
 clear ha hb hw0 hb0 hA
 subst hva hvb
 go_enter Tryz.func248, Tryz.ntmps248
 go_wp2_with (rw [← HW0.out])
 refine Calls.mono HCo.out ?_
 rintro e w1 ⟨rfl, hb1⟩
 have HB1 : Hid (Below w.heap.size w w1) := bstep HB0.out hb1
 clear hb1
 go_wp2
 go_ret
 exact ⟨rfl, HB1.out⟩
end Go.Proofs.YthpmpdpfnlecmaaGreat

namespace Go.Proofs.YthpmpdpfnlecmaaGreat
set_option linter.unusedVariables false
set_option linter.unusedSimpArgs false
open Go.RowKit
def OwnI (w : World) (base : Nat) (v : Value) (l : List Int) : Prop := OwnV w base 3 v (i64s l)
theorem i64s_append (a b : List Int) : i64s (a ++ b) = i64s a ++ i64s b := by simp [i64s]
theorem OwnI.is {w : World} {base : Nat} {v : Value} {l : List Int} (h : OwnI w base v l) : Is w v l := OwnV.sl h
theorem OwnI.later {w w' : World} {base : Nat} {v : Value} {l : List Int} (h : OwnI w base v l) (hb : Below w.heap.size w w') : OwnI w' base v l := OwnV.later h hb
theorem OwnI.of_block {w w' : World} {base : Nat} {v : Value} {l : List Int} (h : OwnI w base v l) (hb : ∀ k, v.ownBlock = some k → k < w.heap.size → w'.heap[k]? = w.heap[k]?) : OwnI w' base v l := OwnV.of_block h hb
theorem OwnI.block {w : World} {base : Nat} {v : Value} {l : List Int} (h : OwnI w base v l) : ∀ k, v.ownBlock = some k → base ≤ k ∧ k < w.heap.size := OwnV.block h
theorem OwnI.nil (w : World) (base : Nat) : OwnI w base (.slice none 0 0) [] := OwnV.nil w base 3
theorem OwnI.typed {w : World} {base : Nat} {v : Value} {l : List Int} (h : OwnI w base v l) : ∀ k, v.ownBlock = some k → ∃ C, At w k C 3 := OwnV.typed h
theorem OwnI.ne {w : World} {base g : Nat} {v : Value} {l : List Int} {C : Array Value} {t : TypeId} (ho : OwnI w base v l) (h : At w g C t) (ht : t ≠ 3) : v.ownBlock ≠ some g := by
 intro e
 obtain ⟨C', hC⟩ := ho.typed g e
 unfold At at h hC
 rw [h] at hC
 simp only [Option.some.injEq, Obj.cells.injEq] at hC
 exact ht hC.2.1
theorem At.grownI {w w' : World} {g base : Nat} {C : Array Value} {t : TypeId} {v : Value} {l : List Int} (h : At w g C t) (ho : OwnI w base v l) (ht : t ≠ 3) (hg : w.grownBy w' v.ownBlock) : At w' g C t := by
 have hl := h.lt
 have hne := ho.ne h ht
 unfold At at h ⊢
 rw [hg.block g hl (fun e => hne e.symm)]; exact h
/-- A row that isn't empty, cell by cell. -/
theorem OwnI.parts {w : World} {base : Nat} {v : Value} {l : List Int} (h : OwnI w base v l) (hne : l ≠ []) : ∃ g cap, v = .slice (some ⟨g, 0, none⟩) l.length cap ∧ l.length ≤ cap ∧ cap ≤ maxLen ∧ base ≤ g ∧ g < w.heap.size ∧ ∀ i (hi : i < l.length), w.cell? ⟨g, i, none⟩ = some (.int .i64 l[i]) := by
 have hs := OwnV.sl h
 rcases h.2 with ⟨rfl, h0⟩ | ⟨g, cap, cur, rfl, hg, hh, hn, hm, r⟩
 ·rw [i64s_length] at h0
  exact absurd (List.eq_nil_of_length_eq_zero h0) hne
 ·obtain ⟨a, c, e, _, _, h3⟩ := hs
  obtain ⟨b, off, ea, hb, hc⟩ := h3 (by simpa [i64s] using hne)
  cases e
  cases ea
  rw [i64s_length] at hn ⊢
  refine ⟨g, cap, rfl, hn, hm, hg, hb, fun i hi => ?_⟩
  have := hc i (by rw [i64s_length]; exact hi)
  rw [Nat.zero_add] at this
  rw [this]; simp [i64s]

theorem Tryz.infoInt7 : (Tryz.prog.info? 3).map (fun i => (i.zero, i.size, i.bytes)) = some (some (.int .i64 0), 1, 8) := by kernel_rfl

/-- As run_append_at; what stood in the row stands there. -/
theorem run_append_keep {P : Program} (w : World) (base : Nat) (t tx ty e : TypeId) (i : TypeInfo) (z : Value) (ht : P.underlying t = some (.slice e)) (hi : P.info? e = some i) (hz : i.zero = some z) (hs1 : i.size = 1) (hzs : z.cells.size = 1)
  {v y : Value} {xs news : List Value} {n : Nat} (hv : OwnV w base e v xs) (hs : Src P 1 tx y n news w) (h63 : xs.length + n ≤ maxLen) (hbytes : ((xs.length + n) + (xs.length + n) / 4 + 192) * i.bytes ≤ 281474976710656) (hbase : base ≤ w.heap.size) :
  ∃ v' w', (Builtin.append_ #[t, tx] ty #[v, y]).run P w = .ok v' w' ∧ OwnV w' base e v' (xs ++ news) ∧ w.grownBy w' v.ownBlock ∧ (v'.ownBlock = v.ownBlock ∨ v'.ownBlock = some w.heap.size) ∧ (∀ g, v.ownBlock = some g → ∀ j, j < xs.length → w'.cell? ⟨g, j, none⟩ = w.cell? ⟨g, j, none⟩) := by
 obtain ⟨v', w', hr, ho, hg, hp, _⟩ := run_append_at (P := P) w base t tx ty e i z ht hi hz hs1 hzs hv hs h63 hbytes hbase
 refine ⟨v', w', hr, ho, hg, hp, fun g hvg j hj => ?_⟩
 rcases hv.2 with ⟨rfl, h0⟩ | ⟨g', cap, cur, rfl, hbg, hgg, hnc, hcm, hcs, htake⟩
 ·simp [Value.ownBlock] at hvg
 ·have e1 : g' = g := by simpa [Value.ownBlock] using hvg
  subst e1
  have hnl : news.length = n := by have := hs.newsLen; omega
  have hadd : (⟨g', 0, none⟩ : Addr).add j = ⟨g', j, none⟩ := by unfold Addr.add; split <;> simp_all
  have hc0 := World.ownsRow.cells (w := w) (base := base) (e := e) (size := 1) (v := .slice (some ⟨g', 0, none⟩) xs.length cap) (n := xs.length) (xs := xs) hv (g := g') rfl j xs[j] (List.getElem?_eq_getElem hj)
  by_cases hroom : xs.length + n ≤ cap
  ·have hfit : xs.length * i.size + news.length ≤ cur.size := by rw [hs1, hcs, hnl]; omega
   have hst := run_storeCells_at P g' (xs.length * i.size) e news 0 cur w hgg (by simpa using hfit) hs.one
   simp only [Nat.add_zero] at hst
   have hr' : (Builtin.append_ #[t, tx] ty #[.slice (some ⟨g', 0, none⟩) xs.length cap, y]).run P w = .ok (.slice (some ⟨g', 0, none⟩) (xs.length + n) cap) (w.setRow g' (cur.toList.take (xs.length * i.size) ++ news ++ cur.toList.drop (xs.length * i.size + news.length)).toArray) := by
    have hc := hs.cells
    rw [hs1] at hst ⊢
    simp only [Nat.mul_one] at hst ⊢
    rcases hs.kind with ⟨e', hk⟩ | hk <;> simp [Builtin.append_, run_underlying ht, run_underlying hk, sizeOf, typeInfo, hi, hs1, hs.len, hc, hroom, Addr.add_lit, hst]
   rw [hr'] at hr
   simp only [Result.ok.injEq] at hr
   obtain ⟨hr1, hr2⟩ := hr
   subst hr1
   have hc1 := World.ownsRow.cells (w := w') (base := base) (e := e) (size := 1) (n := (xs ++ news).length) (xs := xs ++ news) ho (g := g') rfl j xs[j] (by rw [List.getElem?_append_left hj]; exact List.getElem?_eq_getElem hj)
   rw [hadd] at hc0 hc1
   rw [hc1, hc0]
  ·have hold : (Builtin.firstCells i.size xs.length (.slice (some ⟨g', 0, none⟩) xs.length cap)).run P w.drew = .ok xs.toArray w.drew := by
    rw [hs1]
    refine run_firstCells_some w.drew 1 xs.length ⟨g', 0, none⟩ xs.length cap xs (by omega) ?_
    intro j u hj
    exact World.ownsRow.cells (w := w.drew) (base := base) (e := e) (size := 1) (v := .slice (some ⟨g', 0, none⟩) xs.length cap) (n := xs.length) (xs := xs) hv (g := g') rfl j u hj
   have h63i : ((xs.length + n : Nat) : Int) ≤ 9223372036854775807 := by simp only [maxLen] at h63; omega
   have hr' := run_append_grow_src (P := P) w t tx ty e i z ht hi hz (some ⟨g', 0, none⟩) xs.length cap xs hold y n news (by rw [hs1]; exact hs) (by omega) h63i (growslice_fits_wide (by omega) hbytes)
   rw [hr'] at hr
   simp only [Result.ok.injEq] at hr
   obtain ⟨hr1, hr2⟩ := hr
   subst hr2
   have hlt := (Array.getElem?_eq_some_iff.1 hgg).1
   exact World.cell?_of_block (heap_alloc_old w.drew _ hlt)

/-- The same for the walk. -/
theorem wpList_append_int {ops : Array Oper} {Q : Exit → Act → World → Prop} {a : Act} {w : World} {rest : List Oper} {o : Oper} (hw : Region.wanted o (yielded ops a.tmps) = true) (s x : Operand)
  (ho : o.op = .call { callee := .builtin .append, args := #[s, x], argTypes := #[31, 31] }) (base : Nat)
  {v y : Value} {l : List Int} {n : Int} (hs : a.eval s = v) (hx : a.eval x = y) (hv : OwnI w base v l) (hy : Src Tryz.prog 1 31 y 1 [.int .i64 n] w) (hl : l.length ≤ 100000) (hbase : base ≤ w.heap.size)
  (h : ∀ v' w', OwnI w' base v' (l ++ [n]) → w.grownBy w' v.ownBlock → wpList Tryz.prog ops Q rest (a.put o.dst v') w') : wpList Tryz.prog ops Q (o :: rest) a w := by
 refine wpList_want hw fun K hK => ?_
 obtain ⟨i, hi, hz0, hz1, hz2⟩ := info_parts Tryz.infoInt7
 obtain ⟨v', w', hr, h2, h3, h4, h5⟩ := run_append_keep (P := Tryz.prog) w base 31 31 o.type 3 i _ Tryz.underlying31 hi hz0 hz1 rfl hv hy (by rw [i64s_length]; unfold maxLen; omega) (by rw [i64s_length, hz2]; omega) hbase
 unfold Oper.wp execOp
 simp only [ho, resolve, invoke, builtin, Sem.run_bind, Sem.run_pure, Result.andThen_ok, List.map_toArray, List.map_cons, List.map_nil, hs, hx, hr]
 refine hK _ _ (h v' w' ?_ h3)
 unfold OwnI
 rw [i64s_append]
 exact h2

theorem one_int (w : World) (n : Int) (g : Nat) (hg : g = w.heap.size) : Src Tryz.prog 1 31 (.slice (some ⟨g, 0, none⟩) 1 1) 1 [.int .i64 n] (w.alloc (Obj.cells #[.int .i64 n] 3)) :=
 one_src0 Tryz.underlying31 w (.int .i64 n) 3 g hg rfl
end Go.Proofs.YthpmpdpfnlecmaaGreat

namespace Go.Proofs.YthpmpdpfnlecmaaGreat
set_option linter.unusedVariables false
set_option linter.unusedSimpArgs false
open Go.RowKit
attribute [local go_sem ↓] Go.wp_at_zero Go.wp_at_succ
def imC (g : Img) : Array Value := #[.slice g.ta g.ts.length g.tc, .slice g.fa g.fs.length g.fc, .slice g.ma g.ms.length g.mc, .int .i64 g.en]
/-- An image in a block of its own. -/
structure GB (w : World) (b : Nat) (g : Img) : Prop where
 box : At w b (imC g) 26
 im : Im w g
theorem GB.later {w w' : World} {b : Nat} {g : Img} (h : GB w b g) (hb : Below w.heap.size w w') : GB w' b g := ⟨h.box.later hb, h.im.later hb⟩
theorem GB.cells {w : World} {b : Nat} {g : Img} (h : GB w b g) : w.cell? ⟨b, 0, none⟩ = some (.slice g.ta g.ts.length g.tc) ∧ w.cell? ⟨b, 1, none⟩ = some (.slice g.fa g.fs.length g.fc) ∧ w.cell? ⟨b, 2, none⟩ = some (.slice g.ma g.ms.length g.mc) ∧ w.cell? ⟨b, 3, none⟩ = some (.int .i64 g.en) :=
 ⟨h.box.cell 0, h.box.cell 1, h.box.cell 2, h.box.cell 3⟩
/-- The box that a function lays of an image that it takes. -/
theorem GB.made {w w0 : World} {g : Img} (hg : Im w g) (h : w0 = w.alloc (.cells (imC g) 26)) : Below w.heap.size w w0 ∧ GB w0 w.heap.size g := by
 subst h
 exact ⟨made_below _ _ _, At.made _ _ _, hg.later (made_below _ _ _)⟩
/-- A type's cells. -/
theorem GB.type {w : World} {b : Nat} {g : Img} (h : GB w b g) {q : Nat} (hq : q < g.ts.length) : ∃ tb off, g.ta = some ⟨tb, off, none⟩ ∧ tb < w.heap.size ∧ g.ts.length ≤ g.tc ∧ g.tc ≤ maxLen ∧
  w.cell? ⟨tb, off + q * 4, none⟩ = some (.string g.ts[q].nm) ∧ w.cell? ⟨tb, off + q * 4 + 1, none⟩ = some (.int .i64 g.ts[q].fl) ∧ w.cell? ⟨tb, off + q * 4 + 2, none⟩ = some (.int .i64 g.ts[q].ex) ∧ w.cell? ⟨tb, off + q * 4 + 3, none⟩ = some (.slice g.ts[q].fa g.ts[q].fs.length g.ts[q].fc) := by
 obtain ⟨tb, off, cap, hv, h1, h2, hb, hc⟩ := h.im.ts.parts (by intro e; rw [e] at hq; simp at hq)
 simp only [Value.slice.injEq] at hv
 obtain ⟨ha, _, hcap⟩ := hv
 subst hcap
 exact ⟨tb, off, ha, hb, h1, h2, (show El tdE w tb (off + q * 4) g.ts[q] from hc q hq).cells_T⟩

set_option maxHeartbeats 1000000 in
theorem isThere_any {g : Img} (t : Int) {w : World} (hg : Im w g) :
  Calls Tryz.prog 40 #[imV g, .int .i64 t] w fun e w' => e = .returned (.bool (numB t g.ts.length)) ∧ Below w.heap.size w w' := by
 obtain ⟨w0, hw0⟩ : ∃ W, W = w.alloc (.cells (imC g) 26) := ⟨_, rfl⟩
 have HW0 : Hid (w0 = _) := hw0
 obtain ⟨hb0, hgb⟩ := GB.made hg hw0
 have HB0 : Hid (Below w.heap.size w w0) := hb0
 obtain ⟨c0, c1, c2, c3⟩ := hgb.cells
 have htl := hg.ts.len
 unfold maxLen at htl
 unfold imC at HW0
 clear hw0 hb0 hgb hg
 unfold imV
 go_enter Tryz.func40, Tryz.ntmps40
 go_wp2_with (rw [← HW0.out])
 all_goals go_ret
 all_goals refine ⟨ret_bool ?_, HB0.out⟩
 all_goals (unfold numB; rw [Bool.eq_iff_iff]; simp; try omega)

set_option maxHeartbeats 1000000 in
theorem refThere_any {g : Img} (t : Int) {w : World} (hg : Im w g) :
  Calls Tryz.prog 59 #[imV g, .int .i64 t] w fun e w' => e = .returned (.bool (numB t g.ts.length)) ∧ Below w.heap.size w w' := by
 obtain ⟨w0, hw0⟩ : ∃ W, W = w.alloc (.cells (imC g) 26) := ⟨_, rfl⟩
 have HW0 : Hid (w0 = _) := hw0
 obtain ⟨hb0, hgb⟩ := GB.made hg hw0
 have HB0 : Hid (Below w.heap.size w w0) := hb0
 obtain ⟨c0, c1, c2, c3⟩ := hgb.cells
 have htl := hg.ts.len
 unfold maxLen at htl
 unfold imC at HW0
 clear hw0 hb0 hgb hg
 unfold imV
 go_enter Tryz.func59, Tryz.ntmps59
 go_wp2_with (rw [← HW0.out])
 all_goals go_ret
 all_goals refine ⟨ret_bool ?_, HB0.out⟩
 all_goals (unfold numB; rw [Bool.eq_iff_iff]; simp; try omega)

/-- The flags of a type that is formed. -/
theorem and_flag : ∀ f : Fin 32, (bits .and .i64 (f.val : Int) 2 = if bitB (f.val : Int) 2 = true then 2 else 0) ∧ (bits .and .i64 (f.val : Int) 1 = if bitB (f.val : Int) 1 = true then 1 else 0) ∧ (bits .and .i64 (f.val : Int) 16 = if bitB (f.val : Int) 16 = true then 16 else 0) ∧ (bits .and .i64 (f.val : Int) 8 = if bitB (f.val : Int) 8 = true then 8 else 0) := by decide +kernel
theorem and_flags {f : Int} (h : 0 ≤ f ∧ f ≤ 31) : (bits .and .i64 f 2 = if bitB f 2 = true then 2 else 0) ∧ (bits .and .i64 f 1 = if bitB f 1 = true then 1 else 0) ∧ (bits .and .i64 f 16 = if bitB f 16 = true then 16 else 0) ∧ (bits .and .i64 f 8 = if bitB f 8 = true then 8 else 0) := by
 have := and_flag ⟨f.toNat, by omega⟩
 rwa [show ((f.toNat : Nat) : Int) = f by omega] at this
theorem quo_flag {f : Int} (h : 0 ≤ f ∧ f ≤ 31) {k : Nat} (hk : 1 ≤ k) : (f / (k : Int)).tmod 2 = (if bitB f k = true then 1 else 0) := by
 obtain ⟨n, rfl⟩ : ∃ n : Nat, f = n := ⟨f.toNat, by omega⟩
 have hd : (n : Int) / (k : Int) = ((n / k : Nat) : Int) := rfl
 rw [hd]
 have hm : ((n / k : Nat) : Int).tmod 2 = ((n / k % 2 : Nat) : Int) := rfl
 rw [hm]
 unfold bitB
 rw [Int.toNat_natCast]
 have h2 : n / k % 2 = 0 ∨ n / k % 2 = 1 := by omega
 rcases h2 with h2 | h2 <;> rw [h2] <;> rfl

set_option maxHeartbeats 1000000 in
theorem refBit_any {f : Int} (h : 0 ≤ f ∧ f ≤ 31) {k : Nat} (hk : 1 ≤ k ∧ k ≤ 16) (w : World) :
  Calls Tryz.prog 60 #[.int .i64 f, .int .i64 (k : Int)] w fun e w' => e = .returned (.bool (bitB f k)) ∧ w' = w := by
 have HQ : Hid ((f / (k : Int)).tmod 2 = (if bitB f k = true then 1 else 0)) := quo_flag h hk.1
 have hk0 : ¬ (k : Int) = 0 := by omega
 have hk1 : ((k : Int) == 0) = false := by simp; omega
 go_enter Tryz.func60, Tryz.ntmps60
 go_wp2
 go_ret
 refine ⟨ret_bool ?_, rfl⟩
 rw [HQ.out]
 cases bitB f k <;> rfl

/-- The index of a type. -/
theorem num_nat {t : Int} {n : Nat} (h : numB t n = true) : ∃ q : Nat, t = (q : Int) ∧ q < n := by
 rw [numB_iff] at h
 exact ⟨t.toNat, by omega, by omega⟩
/-- What an image is told to be, where its flags are formed. -/
def FlOk (g : Img) : Prop := ∀ x ∈ g.ts, 0 ≤ x.fl ∧ x.fl ≤ 31
theorem FlOk.of {g : Img} (h : imB g = true) : FlOk g := by
 intro x hx
 unfold imB at h
 simp only [Bool.and_eq_true] at h
 have := List.all_eq_true.1 h.1.1.1.2 x hx
 unfold tdB witB at this
 simp only [Bool.and_eq_true, decide_eq_true_iff] at this
 omega
theorem knd_at {g : Img} {q : Nat} (hq : q < g.ts.length) : kndI g (q : Int) = kindF g.ts[q].fl := by
 unfold kndI
 rw [if_pos (by rw [numB_iff]; omega), flI_at hq]

set_option maxHeartbeats 2000000 in
theorem kind_any {g : Img} (t : Int) {w : World} (hg : Im w g) (hf : FlOk g) :
  Calls Tryz.prog 16 #[imV g, .int .i64 t] w fun e w' => e = .returned (.int .i64 (kndI g t)) ∧ Below w.heap.size w w' := by
 obtain ⟨w0, hw0⟩ : ∃ W, W = w.alloc (.cells (imC g) 26) := ⟨_, rfl⟩
 have HW0 : Hid (w0 = _) := hw0
 obtain ⟨hb0, hgb⟩ := GB.made hg hw0
 have HB0 : Hid (Below w.heap.size w w0) := hb0
 have HG : Hid (∀ W, Below w0.heap.size w0 W → GB W w.heap.size g) := fun W hW => hgb.later hW
 obtain ⟨c0, c1, c2, c3⟩ := hgb.cells
 have htl := hg.ts.len
 unfold maxLen at htl
 have HTh : Hid (Calls Tryz.prog 40 #[.agg (imC g), .int .i64 t] w0 fun e w' => e = .returned (.bool (numB t g.ts.length)) ∧ Below w0.heap.size w0 w') := isThere_any t hgb.im
 unfold imC at HW0 HTh
 clear hw0 hb0 hgb hg
 unfold imV
 go_enter Tryz.func16, Tryz.ntmps16
 go_wp2_with (rw [← HW0.out])
 refine Calls.mono HTh.out ?_
 rintro e w1 ⟨rfl, hb1⟩
 have HB1 : Hid (Below w.heap.size w w1) := bstep HB0.out hb1
 have hG1 := HG.out w1 hb1
 clear c0 c1 c2 c3 hb1 HTh
 cases hn : numB t g.ts.length with
 | false =>
  have HK : Hid (kndI g t = -1) := by show _ = _; unfold kndI; rw [hn]; rfl
  go_wp2_with fail
  go_ret
  exact ⟨ret_int HK.out.symm, HB1.out⟩
 | true =>
  obtain ⟨q, rfl, hq⟩ := num_nat hn
  obtain ⟨tb, off, hta, htb, h1, h2, k0, k1, k2, k3⟩ := hG1.type hq
  obtain ⟨c0, c1, c2, c3⟩ := hG1.cells
  have HK : Hid (kndI g (q : Int) = kindF g.ts[q].fl) := knd_at hq
  obtain ⟨a2, a1, a16, _⟩ := and_flags (hf _ (List.getElem_mem hq))
  unfold maxLen at h2
  rw [hta] at c0
  clear hta hG1 hf hn
  generalize g.ts[q].fl = f at *
  cases hb2 : bitB f 2 with
  | true =>
   rw [hb2, if_pos rfl] at a2
   have HR : Hid (kindF f = 2) := by show _ = _; unfold kindF; rw [if_pos hb2]
   clear hb2
   go_wp2_with fail
   go_ret
   exact ⟨ret_int (by rw [HK.out, HR.out]), HB1.out⟩
  | false =>
   rw [hb2, if_neg (by decide)] at a2
   cases hb1 : bitB f 1 with
   | true =>
    rw [hb1, if_pos rfl] at a1
    have HR : Hid (kindF f = 1) := by show _ = _; unfold kindF; rw [if_neg (by rw [hb2]; decide), if_pos hb1]
    clear hb2 hb1
    go_wp2_with fail
    go_ret
    exact ⟨ret_int (by rw [HK.out, HR.out]), HB1.out⟩
   | false =>
    rw [hb1, if_neg (by decide)] at a1
    cases hb16 : bitB f 16 with
    | true =>
     rw [hb16, if_pos rfl] at a16
     have HR : Hid (kindF f = 3) := by show _ = _; unfold kindF; rw [if_neg (by rw [hb2]; decide), if_neg (by rw [hb1]; decide), if_pos hb16]
     clear hb2 hb1 hb16
     go_wp2_with fail
     go_ret
     exact ⟨ret_int (by rw [HK.out, HR.out]), HB1.out⟩
    | false =>
     rw [hb16, if_neg (by decide)] at a16
     have HR : Hid (kindF f = 0) := by show _ = _; unfold kindF; rw [if_neg (by rw [hb2]; decide), if_neg (by rw [hb1]; decide), if_neg (by rw [hb16]; decide)]
     clear hb2 hb1 hb16
     go_wp2_with fail
     go_ret
     exact ⟨ret_int (by rw [HK.out, HR.out]), HB1.out⟩

set_option maxHeartbeats 2000000 in
theorem refKind_any {g : Img} (t : Int) {w : World} (hg : Im w g) (hf : FlOk g) :
  Calls Tryz.prog 27 #[imV g, .int .i64 t] w fun e w' => e = .returned (.int .i64 (kndI g t)) ∧ Below w.heap.size w w' := by
 obtain ⟨w0, hw0⟩ : ∃ W, W = w.alloc (.cells (imC g) 26) := ⟨_, rfl⟩
 have HW0 : Hid (w0 = _) := hw0
 obtain ⟨hb0, hgb⟩ := GB.made hg hw0
 have HB0 : Hid (Below w.heap.size w w0) := hb0
 have HG : Hid (∀ W, Below w0.heap.size w0 W → GB W w.heap.size g) := fun W hW => hgb.later hW
 obtain ⟨c0, c1, c2, c3⟩ := hgb.cells
 have htl := hg.ts.len
 unfold maxLen at htl
 have HTh : Hid (Calls Tryz.prog 59 #[.agg (imC g), .int .i64 t] w0 fun e w' => e = .returned (.bool (numB t g.ts.length)) ∧ Below w0.heap.size w0 w') := refThere_any t hgb.im
 unfold imC at HW0 HTh
 clear hw0 hb0 hgb hg
 unfold imV
 go_enter Tryz.func27, Tryz.ntmps27
 go_wp2_with (rw [← HW0.out])
 refine Calls.mono HTh.out ?_
 rintro e w1 ⟨rfl, hb1⟩
 have HB1 : Hid (Below w.heap.size w w1) := bstep HB0.out hb1
 have hG1 := HG.out w1 hb1
 clear c0 c1 c2 c3 hb1 HTh
 cases hn : numB t g.ts.length with
 | false =>
  have HK : Hid (kndI g t = -1) := by show _ = _; unfold kndI; rw [hn]; rfl
  go_wp2_with fail
  go_ret
  exact ⟨ret_int HK.out.symm, HB1.out⟩
 | true =>
  obtain ⟨q, rfl, hq⟩ := num_nat hn
  obtain ⟨tb, off, hta, htb, h1, h2, k0, k1, k2, k3⟩ := hG1.type hq
  obtain ⟨c0, c1, c2, c3⟩ := hG1.cells
  have HK : Hid (kndI g (q : Int) = kindF g.ts[q].fl) := knd_at hq
  have hfq := hf _ (List.getElem_mem hq)
  have HBt : Hid (∀ (k : Nat) (_ : 1 ≤ k ∧ k ≤ 16) W, Calls Tryz.prog 60 #[.int .i64 g.ts[q].fl, .int .i64 (k : Int)] W fun e w' => e = .returned (.bool (bitB g.ts[q].fl k)) ∧ w' = W) := fun k hk W => refBit_any hfq hk W
  unfold maxLen at h2
  rw [hta] at c0
  clear hta hG1 hf hn hfq
  generalize g.ts[q].fl = f at *
  go_wp2_with fail
  refine (HBt.out 2 (by omega) _).mono ?_
  rintro e wz ⟨rfl, hz⟩; subst wz
  cases hb2 : bitB f 2 with
  | true =>
   have HR : Hid (kindF f = 2) := by show _ = _; unfold kindF; rw [if_pos hb2]
   go_wp2_with fail
   go_ret
   exact ⟨ret_int (by rw [HK.out, HR.out]), HB1.out⟩
  | false =>
   go_wp2_with fail
   refine (HBt.out 1 (by omega) _).mono ?_
   rintro e wz ⟨rfl, hz⟩; subst wz
   cases hb1 : bitB f 1 with
   | true =>
    have HR : Hid (kindF f = 1) := by show _ = _; unfold kindF; rw [if_neg (by rw [hb2]; decide), if_pos hb1]
    go_wp2_with fail
    go_ret
    exact ⟨ret_int (by rw [HK.out, HR.out]), HB1.out⟩
   | false =>
    go_wp2_with fail
    refine (HBt.out 16 (by omega) _).mono ?_
    rintro e wz ⟨rfl, hz⟩; subst wz
    cases hb16 : bitB f 16 with
    | true =>
     have HR : Hid (kindF f = 3) := by show _ = _; unfold kindF; rw [if_neg (by rw [hb2]; decide), if_neg (by rw [hb1]; decide), if_pos hb16]
     go_wp2_with fail
     go_ret
     exact ⟨ret_int (by rw [HK.out, HR.out]), HB1.out⟩
    | false =>
     have HR : Hid (kindF f = 0) := by show _ = _; unfold kindF; rw [if_neg (by rw [hb2]; decide), if_neg (by rw [hb1]; decide), if_neg (by rw [hb16]; decide)]
     go_wp2_with fail
     go_ret
     exact ⟨ret_int (by rw [HK.out, HR.out]), HB1.out⟩
end Go.Proofs.YthpmpdpfnlecmaaGreat
