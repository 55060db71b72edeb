
/- clauses of layer 8's references. -/
import Derived.Test.YtfgjlljbpcombaaBodyStick8
import Derived.Test.YtfgjlljbpcombaaRefRight8
import Derived.Test.YtfgjlljbpcombaaRefNum
namespace Go.Proofs.Ytfgjlljbpcombaa
set_option linter.unusedVariables false
set_option linter.unusedSimpArgs false
open Go.RowKit
attribute [local go_sem ↓] Go.wp_at_zero Go.wp_at_succ

/-- What the references' clauses leaves. -/
structure GotL (w w' : World) (ds : List UInt8) (f r : Nat) (cv : Value) (e : Ending) : Prop where
  no : (csS ds (r, 0)).2 ≠ 0 → e = .returned (.agg #[.slice none 0 0, .slice none 0 0, .int .i64 0, .int .i64 (csS ds (r, 0)).2])
  yes : (csS ds (r, 0)).2 = 0 → ∃ ka kc, e = .returned (.agg #[cv, .slice ka (csL ds (r, 0)).length kc, .int .i64 ((f + (csS ds (r, 0)).1 : Nat) : Int), .int .i64 0]) ∧ Ws w' (.slice ka (csL ds (r, 0)).length kc) (csL ds (r, 0)) ∧ ∀ k, (Value.slice ka (csL ds (r, 0)).length kc).ownBlock = some k → w.heap.size ≤ k
  below : Below w.heap.size w w'

/-- Both boxes of the references' clauses. -/
structure Cx (w0 w : World) (cv kv : Value) : Prop where
  box : At w w0.heap.size #[cv, kv] 25
  res : At w (w0.heap.size + 1) #[.slice none 0 0, .slice none 0 0, .int .i64 0, .int .i64 0] 39
  bel : Below w0.heap.size w0 w
  size : w0.heap.size + 2 ≤ w.heap.size
theorem Cx.mk0 (w : World) (cv kv : Value) : Cx w ((w.alloc (.cells #[cv, kv] 25)).alloc (.cells #[.slice none 0 0, .slice none 0 0, .int .i64 0, .int .i64 0] 39)) cv kv := by
  refine ⟨(At.made _ _ _).next _, ?_, ((Below.refl _ _).alloc (Nat.le_refl _) _).alloc (by simp) _, by simp⟩
  have := At.made (w.alloc (.cells #[cv, kv] 25)) #[.slice none 0 0, .slice none 0 0, .int .i64 0, .int .i64 0] 39
  rw [World.size_alloc] at this
  exact this
theorem Cx.later {w0 w w' : World} {cv kv : Value} (h : Cx w0 w cv kv) (hb : Below (w0.heap.size + 2) w w') : Cx w0 w' cv kv :=
  ⟨h.box.below hb (by omega), h.res.below hb (by omega), h.bel.trans (hb.mono (by omega)), Nat.le_trans h.size hb.size⟩

/-- 'append(v, y...)' of clauses as one step of a region that draws. -/
theorem step_append_ws {ops : Array Oper} {o : Oper} {a : Act} {w : World} {K : Act → World → Prop} {Q : Exit → Act → World → Prop} {E : Prop} (hg : o.guard = none) (s x : Operand)
    (ho : o.op = .call { callee := .builtin .append, args := #[s, x], argTypes := #[23, 23] }) (base : Nat)
    {v y : Value} {l m : List Rw} (hs : a.eval s = v) (hx : a.eval x = y) (hv : OwnW w base v l) (hy : Ws w y m) (hl : l.length + m.length ≤ 100000) (hbase : base ≤ w.heap.size)
    (h : ∀ v' w', OwnW w' base v' (l ++ m) → w.grownBy w' v.ownBlock → K (a.put o.dst v') w') : if Region.wanted o (yielded ops a.tmps) = true then Oper.wp Try.prog o a w K Q else E := by
  have hw : Region.wanted o (yielded ops a.tmps) = true := by simp [Region.wanted, hg]
  rw [if_pos hw]
  obtain ⟨v', w', hr, h2, h3⟩ := run_append_ws w base o.type hv hy hl hbase
  unfold Oper.wp execOp
  simp only [ho, resolve, invoke, builtin, Sem.run_bind, Sem.run_pure, Result.andThen_ok, List.map_toArray, List.map_cons, List.map_nil, hs, hx, hr]
  exact h v' w' h2 h3
theorem Cx.grown14 {w0 w w' : World} {cv kv v : Value} {l : List Rw} (h : Cx w0 w cv kv) (ho : OwnW w (w0.heap.size + 2) v l) (hg : w.grownBy w' v.ownBlock) : Cx w0 w' cv kv :=
  h.later (grown8 hg h.size fun k hk => (ho.block k hk).1)

theorem Cx.setK {w0 w : World} {cv kv : Value} (h : Cx w0 w cv kv) (kv' : Value) : Cx w0 (w.setCell ⟨w0.heap.size, 1, none⟩ kv') cv kv' :=
  ⟨h.box.set 1 kv', h.res.other (by omega) _, h.bel.setCell (by simp) _, by simpa [World.setCell] using h.size⟩

/-- The result is laid. -/
def resW (w : World) (g : Nat) (a b : Value) (t e : Int) : World := (((w.setCell ⟨g, 0, none⟩ a).setCell ⟨g, 1, none⟩ b).setCell ⟨g, 2, none⟩ (.int .i64 t)).setCell ⟨g, 3, none⟩ (.int .i64 e)
theorem Cx.done {w0 w : World} {cv kv : Value} (h : Cx w0 w cv kv) (a b : Value) (t e : Int) : (∀ o, (resW w (w0.heap.size + 1) a b t e).cell? ⟨w0.heap.size + 1, o, none⟩ = (#[a, b, .int .i64 t, .int .i64 e] : Array Value)[o]?) ∧ Below w0.heap.size w0 (resW w (w0.heap.size + 1) a b t e) :=
  ⟨(h.res.set4 a b (.int .i64 t) (.int .i64 e)).cell, below_set4 h.bel (by omega) _ _ _ _⟩

set_option maxHeartbeats 1000000 in
set_option maxRecDepth 100000 in
theorem refClauses_any {w : World} {b off cap f r cl cc : Nat} {ca : Option Addr} {bs : List UInt8} (hcell : ∀ i (h : i < bs.length), w.cell? ⟨b, off + i, none⟩ = some (.int .u8 (bs[i].toNat : Int))) (hbl : b < w.heap.size) (hcap : bs.length ≤ cap) (hcm : cap ≤ maxLen) (hl : bs.length ≤ 2000) (hr : f + r ≤ bs.length) :
    Calls Try.prog 29 #[.slice (some ⟨b, off, none⟩) bs.length cap, .int .i64 (f : Int), .int .i64 ((f + r : Nat) : Int), .agg #[.slice ca cl cc, .slice none 0 0]] w fun e w' => GotL w w' (bs.drop f) f r (.slice ca cl cc) e := by
  have hdl : (bs.drop f).length + f = bs.length := by simp; omega
  have HC : Hid (∀ W, Below w.heap.size w W → ∀ j (h : j < (bs.drop f).length), W.cell? ⟨b, off + (f + j), none⟩ = some (.int .u8 ((bs.drop f)[j].toNat : Int))) := fun W hW j hj => by
    rw [hW.cell (p := ⟨b, off + (f + j), none⟩) hbl, hcell (f + j) (by omega)]
    simp
  have HV : Hid (∀ W, Below w.heap.size w W → Bs W (.slice (some ⟨b, off, none⟩) bs.length cap) bs) := fun W hW => Bs.later ⟨_, _, rfl, hcap, hcm, fun _ => ⟨b, off, rfl, hbl, hcell⟩⟩ hW
  have HSeg : Hid (∀ j n, seg bs (f + j) n = seg (bs.drop f) j n) := fun j n => by unfold seg; rw [List.drop_drop]
  have hx0 := Cx.mk0 w (.slice ca cl cc) (.slice none 0 0)
  have HGot : Hid (∀ w' e, GotL w w' (bs.drop f) f r (.slice ca cl cc) e ↔ (((csS (bs.drop f) (r, 0)).2 ≠ 0 → e = .returned (.agg #[.slice none 0 0, .slice none 0 0, .int .i64 0, .int .i64 (csS (bs.drop f) (r, 0)).2])) ∧ ((csS (bs.drop f) (r, 0)).2 = 0 → ∃ ka kc, e = .returned (.agg #[.slice ca cl cc, .slice ka (csL (bs.drop f) (r, 0)).length kc, .int .i64 ((f + (csS (bs.drop f) (r, 0)).1 : Nat) : Int), .int .i64 0]) ∧ Ws w' (.slice ka (csL (bs.drop f) (r, 0)).length kc) (csL (bs.drop f) (r, 0)) ∧ ∀ k, (Value.slice ka (csL (bs.drop f) (r, 0)).length kc).ownBlock = some k → w.heap.size ≤ k) ∧ Below w.heap.size w w')) := fun w' e => ⟨fun h => ⟨h.1, h.2, h.3⟩, fun h => ⟨h.1, h.2.1, h.2.2⟩⟩
  obtain ⟨wa, hwa⟩ : ∃ W, W = (w.alloc (.cells #[.slice ca cl cc, .slice none 0 0] 25)).alloc (.cells #[.slice none 0 0, .slice none 0 0, .int .i64 0, .int .i64 0] 39) := ⟨_, rfl⟩
  rw [← hwa] at hx0
  have HX0 : Hid (Cx w wa (.slice ca cl cc) (.slice none 0 0)) := hx0
  have HCell : Hid (∀ j (h : j < (bs.drop f).length), wa.cell? ⟨b, off + (f + j), none⟩ = some (.int .u8 ((bs.drop f)[j].toNat : Int))) := HC.out wa hx0.bel
  clear hcell hx0
  generalize bs.drop f = ds at *
  have HFill : Hid (fillN r ≤ 3 ∧ ∀ i, i ≤ fillN r → ((r + i) % 4 = 0 ↔ i = fillN r)) := by
    unfold fillN
    exact ⟨by omega, fun i hi => by omega⟩
  have Hc1 : Hid (cs1 ds (r, 0) = zeS ds (r, 0) (fillN r)) := rfl
  have HNo1 : Hid (∀ i a e, i ≤ fillN r → zeS ds (r, 0) i = (a, e) → e ≠ 0 → (csS ds (r, 0)).2 = e) := fun i a e hi hz he => by
    have h1 : cs1 ds (r, 0) = (a, e) := by
      rw [Hc1.out, zeS_stop (i := i) (by rw [hz]; exact he) _ hi, hz]
    rw [cs_no1 (by rw [h1]; exact he), h1]
  have HDone : Hid (∀ W kv a b' t e, Cx w W (.slice ca cl cc) kv → (∀ o, (resW W (w.heap.size + 1) a b' t e).cell? ⟨w.heap.size + 1, o, none⟩ = (#[a, b', .int .i64 t, .int .i64 e] : Array Value)[o]?) ∧ Below w.heap.size w (resW W (w.heap.size + 1) a b' t e)) := fun W kv a b' t e h => h.done a b' t e
  generalize fillN r = F at *
  go_enter Try.func29, Try.ntmps29
  go_wp2
  rw [← hwa]
  clear hwa
  go_loopw [2] (fun u wr => ∃ i : Nat, i ≤ F ∧ u = .int .i64 ((f + r + i : Nat) : Int) ∧ wr = wa ∧ zeS ds (r, 0) i = (r + i, 0)) (fun u _ => f + r + F - (intOf u).toNat)
  case atStart => exact ⟨0, Nat.zero_le _, rfl, rfl, rfl⟩
  case round =>
    obtain ⟨i, hi, rfl, hwr, hz⟩ := hrel
    subst wr
    have hF := HFill.out.2 i hi
    have hF3 := HFill.out.1
    have tr := HX0.out.res.cell
    have tm := HX0.out.res.melt
    obtain ⟨p, hp⟩ : ∃ p, p = f + r + i := ⟨_, rfl⟩
    have HP : Hid (p = f + (r + i)) := by show _ = _; omega
    rw [← hp]
    have hp1 : (f : Int) ≤ (p : Int) := by omega
    have hp2 : (p : Int) ≤ 4000 := by omega
    have hpd : (p : Int) - (f : Int) = ((r + i : Nat) : Int) := by omega
    clear hp
    by_cases hiF : i < F
    · have hm : ((((p : Int) - (f : Int)) % 4) != 0) = true := by rw [bne_iff_ne]; omega
      clear hpd
      by_cases hsh : bs.length ≤ p
      · have hsh' : (bs.length : Int) ≤ (p : Int) := by omega
        have HE : Hid ((csS ds (r, 0)).2 = 1) := HNo1.out (i + 1) _ 1 (by omega) (ze_short hz (by have := HP.out; omega)) (by decide)
        obtain ⟨q1, q2⟩ := HDone.out wa _ (.slice none 0 0) (.slice none 0 0) 0 1 HX0.out
        unfold resW at q1 q2
        have HQ2 : Hid (Below w.heap.size w ((((wa.setCell ⟨w.heap.size + 1, 0, none⟩ (.slice none 0 0)).setCell ⟨w.heap.size + 1, 1, none⟩ (.slice none 0 0)).setCell ⟨w.heap.size + 1, 2, none⟩ (.int .i64 0)).setCell ⟨w.heap.size + 1, 3, none⟩ (.int .i64 1))) := q2
        clear q2 hz hF
        go_wp2
        exact bodyPost_ret (v := .agg #[.slice none 0 0, .slice none 0 0, .int .i64 0, .int .i64 1]) (by simp [results, Try.results29, go_sem, q1]) rfl ((HGot.out _ _).2 (by rw [HE.out]; exact ⟨fun _ => rfl, fun h => absurd h (by decide), HQ2.out⟩))
      · have hsh' : (p : Int) < (bs.length : Int) := by omega
        have hlt : r + i < ds.length := by have := HP.out; omega
        have hcx : wa.cell? ⟨b, off + p, none⟩ = some (.int .u8 (ds[r + i].toNat : Int)) := by rw [HP.out]; exact HCell.out (r + i) hlt
        by_cases hx : ds[r + i].toNat = 0
        · have HZ : Hid (zeS ds (r, 0) (i + 1) = (r + (i + 1), 0)) := ze_good hz hlt hx
          have hx' : ((ds[r + i].toNat : Int) != 0) = false := by rw [bne_eq_false_iff_eq]; omega
          clear hz hF hx
          generalize ds[r + i].toNat = x at *
          go_wp2
          go_roundw
          case rel => exact ⟨i + 1, by omega, by have := HP.out; go_num, trivial, HZ.out⟩
          case measure => have := HP.out; simp [intOf]; omega
        · have HE : Hid ((csS ds (r, 0)).2 = 2) := HNo1.out (i + 1) _ 2 (by omega) (ze_bad hz hlt hx) (by decide)
          have hx' : ((ds[r + i].toNat : Int) != 0) = true := by rw [bne_iff_ne]; omega
          clear hz hF hx
          generalize ds[r + i].toNat = x at *
          obtain ⟨q1, q2⟩ := HDone.out wa _ (.slice none 0 0) (.slice none 0 0) 0 2 HX0.out
          unfold resW at q1 q2
          have HQ2 : Hid (Below w.heap.size w ((((wa.setCell ⟨w.heap.size + 1, 0, none⟩ (.slice none 0 0)).setCell ⟨w.heap.size + 1, 1, none⟩ (.slice none 0 0)).setCell ⟨w.heap.size + 1, 2, none⟩ (.int .i64 0)).setCell ⟨w.heap.size + 1, 3, none⟩ (.int .i64 2))) := q2
          clear q2
          go_wp2
          exact bodyPost_ret (v := .agg #[.slice none 0 0, .slice none 0 0, .int .i64 0, .int .i64 2]) (by simp [results, Try.results29, go_sem, q1]) rfl ((HGot.out _ _).2 (by rw [HE.out]; exact ⟨fun _ => rfl, fun h => absurd h (by decide), HQ2.out⟩))
    · have hiF' : i = F := by omega
      subst hiF'
      have hm : ((((p : Int) - (f : Int)) % 4) != 0) = false := by rw [bne_eq_false_iff_eq]; omega
      have hc1 : cs1 ds (r, 0) = (r + i, 0) := by rw [Hc1.out, hz]
      obtain ⟨a0, ha0⟩ : ∃ a, a = r + i := ⟨_, rfl⟩
      rw [← ha0] at hc1 HP
      have HC1 : Hid (cs1 ds (r, 0) = (a0, 0)) := hc1
      have hp0 : p ≤ 2003 := by omega
      clear hz hF hF3 hpd ha0 hc1
      -- LOOP2
      go_wp2
      go_loopw [2, 9, 10, 11] (fun u n z _ wr => wr = wa ∧ ((z = .int .i64 0 ∧ n = .int .i64 0 ∧ u = .int .i64 ((p : Nat) : Int)) ∨ (z = .int .i64 1 ∧ n = .int .i64 0 ∧ u = .int .i64 ((p + 1 : Nat) : Int) ∧ cs2 ds (r, 0) = (a0 + 1, 0)) ∨ (z = .int .i64 2 ∧ n = .int .i64 (csN ds (r, 0) : Int) ∧ u = .int .i64 ((p + 2 : Nat) : Int) ∧ zeS ds (cs3 ds (r, 0)) 0 = (a0 + 2, 0) ∧ 1 ≤ csN ds (r, 0) ∧ csN ds (r, 0) ≤ 6) ∨ (z = .int .i64 3 ∧ n = .int .i64 (csN ds (r, 0) : Int) ∧ u = .int .i64 ((p + 3 : Nat) : Int) ∧ zeS ds (cs3 ds (r, 0)) 1 = (a0 + 3, 0) ∧ 1 ≤ csN ds (r, 0) ∧ csN ds (r, 0) ≤ 6) ∨ (z = .int .i64 4 ∧ n = .int .i64 (csN ds (r, 0) : Int) ∧ u = .int .i64 ((p + 4 : Nat) : Int) ∧ zeS ds (cs3 ds (r, 0)) 2 = (a0 + 4, 0) ∧ 1 ≤ csN ds (r, 0) ∧ csN ds (r, 0) ≤ 6 ∧ a0 + 4 ≤ ds.length))) (fun _ _ z _ _ => 4 - (intOf z).toNat)
      case atStart => exact ⟨rfl, .inl ⟨rfl, rfl, rfl⟩⟩
      case round =>
        obtain ⟨hwr, hcase⟩ := hrel
        subst wr
        clear hm
        have tr := HX0.out.res.cell
        have tm := HX0.out.res.melt
        rcases hcase with ⟨rfl, rfl, rfl⟩ | ⟨rfl, rfl, rfl, hs⟩ | ⟨rfl, rfl, rfl, hs, hN1, hN6⟩ | ⟨rfl, rfl, rfl, hs, hN1, hN6⟩ | ⟨rfl, rfl, rfl, hs, hN1, hN6, hle4⟩
        · obtain ⟨hno, hyes⟩ := cs_hd0 HC1.out
          obtain ⟨pk, hpk⟩ : ∃ n, n = p + 0 := ⟨_, rfl⟩
          have HPk : Hid (pk = p + 0 ∧ pk = f + (a0 + 0)) := ⟨hpk, by have := HP.out; omega⟩
          rw [show p = pk from hpk.symm]
          have hpk2 : (pk : Int) ≤ 4000 := by omega
          clear hpk
          by_cases hsh : bs.length ≤ pk
          · have hsh' : (bs.length : Int) ≤ (pk : Int) := by omega
            have HE : Hid ((csS ds (r, 0)).2 = 1) := hno (by have := HPk.out.2; omega)
            clear hno hyes
            obtain ⟨q1, q2⟩ := HDone.out wa _ (.slice none 0 0) (.slice none 0 0) 0 1 HX0.out
            unfold resW at q1 q2
            have HQ2 : Hid (Below w.heap.size w ((((wa.setCell ⟨w.heap.size + 1, 0, none⟩ (.slice none 0 0)).setCell ⟨w.heap.size + 1, 1, none⟩ (.slice none 0 0)).setCell ⟨w.heap.size + 1, 2, none⟩ (.int .i64 0)).setCell ⟨w.heap.size + 1, 3, none⟩ (.int .i64 1))) := q2
            clear q2
            go_wp2
            exact bodyPost_ret (v := .agg #[.slice none 0 0, .slice none 0 0, .int .i64 0, .int .i64 1]) (by simp [results, Try.results29, go_sem, q1]) rfl ((HGot.out _ _).2 (by rw [HE.out]; exact ⟨fun _ => rfl, fun h => absurd h (by decide), HQ2.out⟩))
          · have hsh' : (pk : Int) < (bs.length : Int) := by omega
            have hlt : a0 + 0 < ds.length := by have := HPk.out.2; omega
            have hcx : wa.cell? ⟨b, off + pk, none⟩ = some (.int .u8 (ds[a0 + 0].toNat : Int)) := by rw [HPk.out.2]; exact HCell.out (a0 + 0) hlt
            have hx255 := (ds[a0 + 0]).toNat_lt
            obtain ⟨hbad, hgood⟩ := hyes hlt
            by_cases hx : ds[a0 + 0].toNat = 1
            · have HG : Hid (cs2 ds (r, 0) = (a0 + 1, 0)) := hgood hx
              have hx' : ((ds[a0 + 0].toNat : Int) != 1) = false := by rw [bne_eq_false_iff_eq]; omega
              clear hbad hgood hx hno hyes
              generalize ds[a0 + 0].toNat = x at *
              go_wp2
              go_roundw
              case rel => exact ⟨trivial, .inr (.inl ⟨rfl, rfl, by have := HPk.out.1; go_num, HG.out⟩)⟩
              case measure => simp [intOf]
            · have HE : Hid ((csS ds (r, 0)).2 = 2) := hbad hx
              have hx' : ((ds[a0 + 0].toNat : Int) != 1) = true := by rw [bne_iff_ne]; omega
              clear hbad hgood hx hno hyes
              generalize ds[a0 + 0].toNat = x at *
              obtain ⟨q1, q2⟩ := HDone.out wa _ (.slice none 0 0) (.slice none 0 0) 0 2 HX0.out
              unfold resW at q1 q2
              have HQ2 : Hid (Below w.heap.size w ((((wa.setCell ⟨w.heap.size + 1, 0, none⟩ (.slice none 0 0)).setCell ⟨w.heap.size + 1, 1, none⟩ (.slice none 0 0)).setCell ⟨w.heap.size + 1, 2, none⟩ (.int .i64 0)).setCell ⟨w.heap.size + 1, 3, none⟩ (.int .i64 2))) := q2
              clear q2
              go_wp2
              exact bodyPost_ret (v := .agg #[.slice none 0 0, .slice none 0 0, .int .i64 0, .int .i64 2]) (by simp [results, Try.results29, go_sem, q1]) rfl ((HGot.out _ _).2 (by rw [HE.out]; exact ⟨fun _ => rfl, fun h => absurd h (by decide), HQ2.out⟩))
        · obtain ⟨hno, hyes⟩ := cs_hd1 hs
          obtain ⟨pk, hpk⟩ : ∃ n, n = p + 1 := ⟨_, rfl⟩
          have HPk : Hid (pk = p + 1 ∧ pk = f + (a0 + 1)) := ⟨hpk, by have := HP.out; omega⟩
          rw [← hpk]
          have hpk2 : (pk : Int) ≤ 4000 := by omega
          clear hpk hs
          by_cases hsh : bs.length ≤ pk
          · have hsh' : (bs.length : Int) ≤ (pk : Int) := by omega
            have HE : Hid ((csS ds (r, 0)).2 = 1) := hno (by have := HPk.out.2; omega)
            clear hno hyes
            obtain ⟨q1, q2⟩ := HDone.out wa _ (.slice none 0 0) (.slice none 0 0) 0 1 HX0.out
            unfold resW at q1 q2
            have HQ2 : Hid (Below w.heap.size w ((((wa.setCell ⟨w.heap.size + 1, 0, none⟩ (.slice none 0 0)).setCell ⟨w.heap.size + 1, 1, none⟩ (.slice none 0 0)).setCell ⟨w.heap.size + 1, 2, none⟩ (.int .i64 0)).setCell ⟨w.heap.size + 1, 3, none⟩ (.int .i64 1))) := q2
            clear q2
            go_wp2
            exact bodyPost_ret (v := .agg #[.slice none 0 0, .slice none 0 0, .int .i64 0, .int .i64 1]) (by simp [results, Try.results29, go_sem, q1]) rfl ((HGot.out _ _).2 (by rw [HE.out]; exact ⟨fun _ => rfl, fun h => absurd h (by decide), HQ2.out⟩))
          · have hsh' : (pk : Int) < (bs.length : Int) := by omega
            have hlt : a0 + 1 < ds.length := by have := HPk.out.2; omega
            have hcx : wa.cell? ⟨b, off + pk, none⟩ = some (.int .u8 (ds[a0 + 1].toNat : Int)) := by rw [HPk.out.2]; exact HCell.out (a0 + 1) hlt
            have hx255 := (ds[a0 + 1]).toNat_lt
            obtain ⟨hN, hbad, hgood⟩ := hyes hlt
            by_cases hx : 1 ≤ ds[a0 + 1].toNat ∧ ds[a0 + 1].toNat ≤ 6
            · have HG : Hid (cs3 ds (r, 0) = (a0 + 1 + 1, 0)) := hgood hx
              have hx1 : (1 : Int) ≤ (ds[a0 + 1].toNat : Int) := by omega
              have hx6 : (ds[a0 + 1].toNat : Int) ≤ 6 := by omega
              have HNN : Hid (csN ds (r, 0) = ds[a0 + 1].toNat) := hN
              clear hbad hgood hno hyes hN
              generalize ds[a0 + 1].toNat = x at *
              go_wp2
              go_roundw
              case rel => exact ⟨trivial, .inr (.inr (.inl ⟨rfl, by rw [HNN.out], by have := HPk.out.1; go_num, HG.out, by rw [HNN.out]; exact hx.1, by rw [HNN.out]; exact hx.2⟩))⟩
              case measure => simp [intOf]
            · have HE : Hid ((csS ds (r, 0)).2 = 2) := hbad hx
              clear hbad hgood hno hyes hN
              by_cases hx1 : ds[a0 + 1].toNat < 1
              · have hx1' : (ds[a0 + 1].toNat : Int) < 1 := by omega
                clear hx hx1
                generalize ds[a0 + 1].toNat = x at *
                obtain ⟨q1, q2⟩ := HDone.out wa _ (.slice none 0 0) (.slice none 0 0) 0 2 HX0.out
                unfold resW at q1 q2
                have HQ2 : Hid (Below w.heap.size w ((((wa.setCell ⟨w.heap.size + 1, 0, none⟩ (.slice none 0 0)).setCell ⟨w.heap.size + 1, 1, none⟩ (.slice none 0 0)).setCell ⟨w.heap.size + 1, 2, none⟩ (.int .i64 0)).setCell ⟨w.heap.size + 1, 3, none⟩ (.int .i64 2))) := q2
                clear q2
                go_wp2
                exact bodyPost_ret (v := .agg #[.slice none 0 0, .slice none 0 0, .int .i64 0, .int .i64 2]) (by simp [results, Try.results29, go_sem, q1]) rfl ((HGot.out _ _).2 (by rw [HE.out]; exact ⟨fun _ => rfl, fun h => absurd h (by decide), HQ2.out⟩))
              · have hx1' : (1 : Int) ≤ (ds[a0 + 1].toNat : Int) := by omega
                have hx6' : (6 : Int) < (ds[a0 + 1].toNat : Int) := by omega
                clear hx hx1
                generalize ds[a0 + 1].toNat = x at *
                obtain ⟨q1, q2⟩ := HDone.out wa _ (.slice none 0 0) (.slice none 0 0) 0 2 HX0.out
                unfold resW at q1 q2
                have HQ2 : Hid (Below w.heap.size w ((((wa.setCell ⟨w.heap.size + 1, 0, none⟩ (.slice none 0 0)).setCell ⟨w.heap.size + 1, 1, none⟩ (.slice none 0 0)).setCell ⟨w.heap.size + 1, 2, none⟩ (.int .i64 0)).setCell ⟨w.heap.size + 1, 3, none⟩ (.int .i64 2))) := q2
                clear q2
                go_wp2
                exact bodyPost_ret (v := .agg #[.slice none 0 0, .slice none 0 0, .int .i64 0, .int .i64 2]) (by simp [results, Try.results29, go_sem, q1]) rfl ((HGot.out _ _).2 (by rw [HE.out]; exact ⟨fun _ => rfl, fun h => absurd h (by decide), HQ2.out⟩))
        · obtain ⟨hno, hyes⟩ := cs_hdz (by omega) hs
          obtain ⟨pk, hpk⟩ : ∃ n, n = p + 2 := ⟨_, rfl⟩
          have HPk : Hid (pk = p + 2 ∧ pk = f + (a0 + 2)) := ⟨hpk, by have := HP.out; omega⟩
          rw [← hpk]
          have hpk2 : (pk : Int) ≤ 4000 := by omega
          clear hpk hs
          by_cases hsh : bs.length ≤ pk
          · have hsh' : (bs.length : Int) ≤ (pk : Int) := by omega
            have HE : Hid ((csS ds (r, 0)).2 = 1) := hno (by have := HPk.out.2; omega)
            clear hno hyes
            obtain ⟨q1, q2⟩ := HDone.out wa _ (.slice none 0 0) (.slice none 0 0) 0 1 HX0.out
            unfold resW at q1 q2
            have HQ2 : Hid (Below w.heap.size w ((((wa.setCell ⟨w.heap.size + 1, 0, none⟩ (.slice none 0 0)).setCell ⟨w.heap.size + 1, 1, none⟩ (.slice none 0 0)).setCell ⟨w.heap.size + 1, 2, none⟩ (.int .i64 0)).setCell ⟨w.heap.size + 1, 3, none⟩ (.int .i64 1))) := q2
            clear q2
            go_wp2
            exact bodyPost_ret (v := .agg #[.slice none 0 0, .slice none 0 0, .int .i64 0, .int .i64 1]) (by simp [results, Try.results29, go_sem, q1]) rfl ((HGot.out _ _).2 (by rw [HE.out]; exact ⟨fun _ => rfl, fun h => absurd h (by decide), HQ2.out⟩))
          · have hsh' : (pk : Int) < (bs.length : Int) := by omega
            have hlt : a0 + 2 < ds.length := by have := HPk.out.2; omega
            have hcx : wa.cell? ⟨b, off + pk, none⟩ = some (.int .u8 (ds[a0 + 2].toNat : Int)) := by rw [HPk.out.2]; exact HCell.out (a0 + 2) hlt
            have hx255 := (ds[a0 + 2]).toNat_lt
            obtain ⟨hbad, hgood⟩ := hyes hlt
            have HN16 : Hid (1 ≤ csN ds (r, 0) ∧ csN ds (r, 0) ≤ 6) := ⟨hN1, hN6⟩
            clear hN1 hN6
            generalize hnn : csN ds (r, 0) = nn at *
            have HNN : Hid (csN ds (r, 0) = nn) := hnn
            clear hnn
            by_cases hx : ds[a0 + 2].toNat = 0
            · have HG : Hid (zeS ds (cs3 ds (r, 0)) 1 = (a0 + 2 + 1, 0)) := hgood hx
              have hx' : ((ds[a0 + 2].toNat : Int) != 0) = false := by rw [bne_eq_false_iff_eq]; omega
              clear hbad hgood hx hno hyes
              generalize ds[a0 + 2].toNat = x at *
              go_wp2
              go_roundw
              case rel => exact ⟨trivial, .inr (.inr (.inr (.inl ⟨rfl, by first | rfl | rw [HNN.out], by have := HPk.out.1; go_num, HG.out, HN16.out.1, HN16.out.2⟩)))⟩
              case measure => simp [intOf]
            · have HE : Hid ((csS ds (r, 0)).2 = 2) := hbad hx
              have hx' : ((ds[a0 + 2].toNat : Int) != 0) = true := by rw [bne_iff_ne]; omega
              clear hbad hgood hx hno hyes
              generalize ds[a0 + 2].toNat = x at *
              obtain ⟨q1, q2⟩ := HDone.out wa _ (.slice none 0 0) (.slice none 0 0) 0 2 HX0.out
              unfold resW at q1 q2
              have HQ2 : Hid (Below w.heap.size w ((((wa.setCell ⟨w.heap.size + 1, 0, none⟩ (.slice none 0 0)).setCell ⟨w.heap.size + 1, 1, none⟩ (.slice none 0 0)).setCell ⟨w.heap.size + 1, 2, none⟩ (.int .i64 0)).setCell ⟨w.heap.size + 1, 3, none⟩ (.int .i64 2))) := q2
              clear q2
              go_wp2
              exact bodyPost_ret (v := .agg #[.slice none 0 0, .slice none 0 0, .int .i64 0, .int .i64 2]) (by simp [results, Try.results29, go_sem, q1]) rfl ((HGot.out _ _).2 (by rw [HE.out]; exact ⟨fun _ => rfl, fun h => absurd h (by decide), HQ2.out⟩))
        · obtain ⟨hno, hyes⟩ := cs_hdz (by omega) hs
          obtain ⟨pk, hpk⟩ : ∃ n, n = p + 3 := ⟨_, rfl⟩
          have HPk : Hid (pk = p + 3 ∧ pk = f + (a0 + 3)) := ⟨hpk, by have := HP.out; omega⟩
          rw [← hpk]
          have hpk2 : (pk : Int) ≤ 4000 := by omega
          clear hpk hs
          by_cases hsh : bs.length ≤ pk
          · have hsh' : (bs.length : Int) ≤ (pk : Int) := by omega
            have HE : Hid ((csS ds (r, 0)).2 = 1) := hno (by have := HPk.out.2; omega)
            clear hno hyes
            obtain ⟨q1, q2⟩ := HDone.out wa _ (.slice none 0 0) (.slice none 0 0) 0 1 HX0.out
            unfold resW at q1 q2
            have HQ2 : Hid (Below w.heap.size w ((((wa.setCell ⟨w.heap.size + 1, 0, none⟩ (.slice none 0 0)).setCell ⟨w.heap.size + 1, 1, none⟩ (.slice none 0 0)).setCell ⟨w.heap.size + 1, 2, none⟩ (.int .i64 0)).setCell ⟨w.heap.size + 1, 3, none⟩ (.int .i64 1))) := q2
            clear q2
            go_wp2
            exact bodyPost_ret (v := .agg #[.slice none 0 0, .slice none 0 0, .int .i64 0, .int .i64 1]) (by simp [results, Try.results29, go_sem, q1]) rfl ((HGot.out _ _).2 (by rw [HE.out]; exact ⟨fun _ => rfl, fun h => absurd h (by decide), HQ2.out⟩))
          · have hsh' : (pk : Int) < (bs.length : Int) := by omega
            have hlt : a0 + 3 < ds.length := by have := HPk.out.2; omega
            have hcx : wa.cell? ⟨b, off + pk, none⟩ = some (.int .u8 (ds[a0 + 3].toNat : Int)) := by rw [HPk.out.2]; exact HCell.out (a0 + 3) hlt
            have hx255 := (ds[a0 + 3]).toNat_lt
            obtain ⟨hbad, hgood⟩ := hyes hlt
            have HN16 : Hid (1 ≤ csN ds (r, 0) ∧ csN ds (r, 0) ≤ 6) := ⟨hN1, hN6⟩
            clear hN1 hN6
            generalize hnn : csN ds (r, 0) = nn at *
            have HNN : Hid (csN ds (r, 0) = nn) := hnn
            clear hnn
            by_cases hx : ds[a0 + 3].toNat = 0
            · have HG : Hid (zeS ds (cs3 ds (r, 0)) 2 = (a0 + 3 + 1, 0)) := hgood hx
              have hx' : ((ds[a0 + 3].toNat : Int) != 0) = false := by rw [bne_eq_false_iff_eq]; omega
              clear hbad hgood hx hno hyes
              generalize ds[a0 + 3].toNat = x at *
              go_wp2
              go_roundw
              case rel => exact ⟨trivial, .inr (.inr (.inr (.inr ⟨rfl, by first | rfl | rw [HNN.out], by have := HPk.out.1; go_num, HG.out, HN16.out.1, HN16.out.2, by omega⟩)))⟩
              case measure => simp [intOf]
            · have HE : Hid ((csS ds (r, 0)).2 = 2) := hbad hx
              have hx' : ((ds[a0 + 3].toNat : Int) != 0) = true := by rw [bne_iff_ne]; omega
              clear hbad hgood hx hno hyes
              generalize ds[a0 + 3].toNat = x at *
              obtain ⟨q1, q2⟩ := HDone.out wa _ (.slice none 0 0) (.slice none 0 0) 0 2 HX0.out
              unfold resW at q1 q2
              have HQ2 : Hid (Below w.heap.size w ((((wa.setCell ⟨w.heap.size + 1, 0, none⟩ (.slice none 0 0)).setCell ⟨w.heap.size + 1, 1, none⟩ (.slice none 0 0)).setCell ⟨w.heap.size + 1, 2, none⟩ (.int .i64 0)).setCell ⟨w.heap.size + 1, 3, none⟩ (.int .i64 2))) := q2
              clear q2
              go_wp2
              exact bodyPost_ret (v := .agg #[.slice none 0 0, .slice none 0 0, .int .i64 0, .int .i64 2]) (by simp [results, Try.results29, go_sem, q1]) rfl ((HGot.out _ _).2 (by rw [HE.out]; exact ⟨fun _ => rfl, fun h => absurd h (by decide), HQ2.out⟩))
        · have hc4 : cs4 ds (r, 0) = (a0 + 4, 0) := hs
          -- LOOP3
          obtain ⟨a4, ha4⟩ : ∃ a, a = a0 + 4 := ⟨_, rfl⟩
          rw [← ha4] at hc4 hle4
          have HC4 : Hid (cs4 ds (r, 0) = (a4, 0)) := hc4
          obtain ⟨p4, hp4⟩ : ∃ a, a = p + 4 := ⟨_, rfl⟩
          have HP4 : Hid (p4 = f + a4) := by show _ = _; have := HP.out; omega
          rw [← hp4]
          have hp4l : p4 ≤ 2007 := by omega
          obtain ⟨nn, hnn⟩ : ∃ n, n = csN ds (r, 0) := ⟨_, rfl⟩
          rw [← hnn] at hN1 hN6 ⊢
          have HNN : Hid (csN ds (r, 0) = nn) := hnn.symm
          clear hnn hp4 ha4 hc4 hs tr tm
          go_wp2
          go_loopw [2, 12, 13, 14] (fun u z _ _ wr => ∃ (q : Nat) (kv : Value), q ≤ nn ∧ z = .int .i64 (q : Int) ∧ u = .int .i64 ((p4 + 12 * q : Nat) : Int) ∧ a4 + 12 * q ≤ ds.length ∧ Cx w wr (.slice ca cl cc) kv ∧ OwnW wr (w.heap.size + 2) kv (rsL ds (a4, 0) q)) (fun _ z _ _ _ => nn - (intOf z).toNat)
          case atStart => exact ⟨0, .slice none 0 0, Nat.zero_le _, rfl, rfl, hle4, HX0.out, OwnW.nil _ _⟩
          case round =>
            obtain ⟨q, kv, hq, rfl, rfl, hleq, hx, ho⟩ := hrel
            have tr := hx.res.cell
            have tm := hx.res.melt
            have tb := hx.box.cell
            have tbm := hx.box.melt
            have HX : Hid (Cx w wr (.slice ca cl cc) kv) := hx
            have HOW : Hid (OwnW wr (w.heap.size + 2) kv (rsL ds (a4, 0) q)) := ho
            obtain ⟨ka, kc, hkv, -, -⟩ := ho.shape
            rw [rsL_length] at hkv
            subst hkv
            obtain ⟨pq, hpq⟩ : ∃ a, a = p4 + 12 * q := ⟨_, rfl⟩
            obtain ⟨aq, haq⟩ : ∃ a, a = a4 + 12 * q := ⟨_, rfl⟩
            have HPQ : Hid (pq = p4 + 12 * q ∧ pq = f + aq ∧ aq = a4 + 12 * q) := ⟨hpq, by have := HP4.out; omega, haq⟩
            rw [← hpq]
            rw [← haq] at hleq
            have hpql : pq ≤ 2000 := by have := HPQ.out.2.1; omega
            clear hpq haq hx ho HX0 HCell
            by_cases hqn : q < nn
            · by_cases hsh : ds.length < aq + 12
              · have hsh' : (bs.length : Int) - (pq : Int) < 12 := by have := HPQ.out.2.1; omega
                have HE : Hid ((csS ds (r, 0)).2 = 1) := cs_short HC4.out (by rw [HNN.out]; exact hqn) (by have := HPQ.out.2.2; omega) (by have := HPQ.out.2.2; omega)
                obtain ⟨q1, q2⟩ := HDone.out wr _ (.slice none 0 0) (.slice none 0 0) 0 1 HX.out
                unfold resW at q1 q2
                have HQ2 : Hid (Below w.heap.size w ((((wr.setCell ⟨w.heap.size + 1, 0, none⟩ (.slice none 0 0)).setCell ⟨w.heap.size + 1, 1, none⟩ (.slice none 0 0)).setCell ⟨w.heap.size + 1, 2, none⟩ (.int .i64 0)).setCell ⟨w.heap.size + 1, 3, none⟩ (.int .i64 1))) := q2
                clear q2
                go_wp2
                exact bodyPost_ret (v := .agg #[.slice none 0 0, .slice none 0 0, .int .i64 0, .int .i64 1]) (by simp [results, Try.results29, go_sem, q1]) rfl ((HGot.out _ _).2 (by rw [HE.out]; exact ⟨fun _ => rfl, fun h => absurd h (by decide), HQ2.out⟩))
              · have hsh' : (12 : Int) ≤ (bs.length : Int) - (pq : Int) := by have := HPQ.out.2.1; omega
                obtain ⟨wq, rfl⟩ : ∃ wq, wq = wr := ⟨_, rfl⟩
                have HNum : Hid (∀ k, k < 6 → ∃ m : Nat, m ≤ 65535 ∧ (numsR (clR ds (aq, 0)))[k]? = some (m : Int) ∧ leN (seg bs (pq + 2 * k) 2) = m) := by
                  intro k hk
                  refine ⟨leN (seg ds (aq + 2 * k) 2), two_lt8 _ _, ?_, ?_⟩
                  · have hv := fun j (hj : j < 6) => clV_yes (bs := ds) (a := aq) j (by omega)
                    rcases (show k = 0 ∨ k = 1 ∨ k = 2 ∨ k = 3 ∨ k = 4 ∨ k = 5 by omega) with rfl | rfl | rfl | rfl | rfl | rfl
                    · exact congrArg some (hv 0 (by omega))
                    · exact congrArg some (hv 1 (by omega))
                    · exact congrArg some (hv 2 (by omega))
                    · exact congrArg some (hv 3 (by omega))
                    · exact congrArg some (hv 4 (by omega))
                    · exact congrArg some (hv 5 (by omega))
                  · rw [HPQ.out.2.1, Nat.add_assoc, HSeg.out]
                have hlb : pq + 12 ≤ bs.length := by omega
                clear hsh
                go_wp2
                go_loopw [13, 14] (fun v z wr => ∃ k : Nat, k ≤ 6 ∧ z = .int .i64 (k : Int) ∧ OwnV wr wq.heap.size 3 v (ints8 ((numsR (clR ds (aq, 0))).take k)) ∧ Below wq.heap.size wq wr) (fun _ z _ => 6 - (intOf z).toNat)
                case atStart => exact ⟨0, Nat.zero_le _, rfl, OwnV.nil _ _ _, Below.refl _ _⟩
                case round =>
                  obtain ⟨k, hk, rfl, hov, hbv⟩ := hrel
                  have HBV : Hid (Below wq.heap.size wq wr) := hbv
                  have hsv := hbv.size
                  by_cases hk6 : k < 6
                  · obtain ⟨m, hm1, hm2, hm3⟩ := HNum.out k hk6
                    have HOV : Hid (OwnV wr wq.heap.size 3 u13 (ints8 ((numsR (clR ds (aq, 0))).take k))) := hov
                    have HNext : Hid (ints8 ((numsR (clR ds (aq, 0))).take (k + 1)) = ints8 ((numsR (clR ds (aq, 0))).take k) ++ [.int .i64 (m : Int)]) := by
                      show _ = _
                      have hk' := (List.getElem?_eq_some_iff.1 hm2).1
                      rw [List.take_succ_eq_append_getElem hk', (List.getElem?_eq_some_iff.1 hm2).2]
                      simp [ints8]
                    have hlk : (ints8 ((numsR (clR ds (aq, 0))).take k)).length = k := by simp [ints8, numsR]; omega
                    have HLk : Hid ((ints8 ((numsR (clR ds (aq, 0))).take k)).length = k) := hlk
                    have hR := refNum_any (HV.out wr (HX.out.bel.trans (hbv.mono HX.out.bel.size))) (pq + 2 * k) 2 (by omega) (by omega) (by omega)
                    rw [hm3, show ((pq + 2 * k : Nat) : Int) = (pq : Int) + 2 * (k : Int) by omega] at hR
                    have HR : Hid (Calls Try.prog 28 #[.slice (some ⟨b, off, none⟩) bs.length cap, .int .i64 ((pq : Int) + 2 * (k : Int)), .int .i64 2] wr fun e w' => e = .returned (.int .u64 (m : Int)) ∧ w' = wr) := hR
                    clear hov hbv hm2 hm3 hR hlk
                    go_wp2_with fail
                    refine Calls.mono HR.out ?_
                    rintro e wz ⟨rfl, hz⟩
                    subst wz
                    clear HR
                    have HSrc : Hid (Src Try.prog 1 49 (.slice (some ⟨wr.heap.size, 0, none⟩) 1 1) 1 [.int .i64 (m : Int)] (wr.alloc (.cells #[.int .i64 (m : Int)] 3))) := (Sl.made wr [.int .i64 (m : Int)] #[.int .i64 (m : Int)] 3 1 rfl rfl (by simp [maxLen])).src Try.underlying49 (fun u hu => by simp at hu; subst hu; rfl)
                    go_wp2_with (at_builtin; go_must (refine wpList_append_at rfl _ _ _ _ rfl (wq.heap.size) 3 (.int .i64 0) 8 Try.underlying49 Try.infoInt8 rfl rfl rfl (HOV.out.later ((Below.refl _ _).alloc (Nat.le_refl _) _)) HSrc.out (by rw [HLk.out]; unfold maxLen; omega) (by rw [HLk.out]; omega) (by simp; omega) ?_))
                    intro v2 w2 ho2 hg2 _ _
                    have hb2 : Below wq.heap.size wq w2 := HBV.out.trans (((Below.refl _ _).alloc hsv _).trans (grown8 hg2 (by simp; omega) (fun k hk => (HOV.out.block k hk).1)))
                    have HO2 : Hid (OwnV w2 wq.heap.size 3 v2 (ints8 ((numsR (clR ds (aq, 0))).take (k + 1)))) := by
                      show OwnV _ _ _ _ _
                      rw [HNext.out]; exact ho2
                    clear ho2 hg2
                    go_wp2
                    go_roundw
                    case rel => exact ⟨k + 1, by omega, by go_num, HO2.out, hb2⟩
                    case measure => simp [intOf]; omega
                  · have hk6' : k = 6 := by omega
                    subst hk6'
                    have hNm : Nm wr u13 (clR ds (aq, 0)) := Nm.of hov
                    -- REGION29
                    have hbw : Below (w.heap.size + 2) wq wr := HBV.out.mono HX.out.size
                    have HX13 : Hid (Cx w wr (.slice ca cl cc) (.slice ka q kc)) := HX.out.later hbw
                    have HO13 : Hid (OwnW wr (w.heap.size + 2) (.slice ka q kc) (rsL ds (a4, 0) q)) := HOW.out.later HBV.out
                    have HLast : Hid (rsL ds (a4, 0) (q + 1) = rsL ds (a4, 0) q ++ [clR ds (aq, 0)]) := by
                      show _ = _
                      rw [rsL_succ, rsS_yes q (by have := HPQ.out.2.2; omega), ← HPQ.out.2.2]
                    have HLq : Hid ((rsL ds (a4, 0) q).length = q) := rsL_length _ _ _
                    clear hov hbv hbw HNum tb tbm tr tm
                    generalize clR ds (aq, 0) = R at *
                    obtain ⟨x0, x1, x2, x3, x4, x5⟩ := R
                    obtain ⟨nb, nc, NC, rfl, hNA, hn6, hnm, hNC⟩ := hNm
                    have d0 : wr.cell? ⟨nb, 0, none⟩ = some (.int .i64 x0) := by rw [hNA.cell]; exact hNC 0 x0 rfl
                    have d1 : wr.cell? ⟨nb, 1, none⟩ = some (.int .i64 x1) := by rw [hNA.cell]; exact hNC 1 x1 rfl
                    have d2 : wr.cell? ⟨nb, 2, none⟩ = some (.int .i64 x2) := by rw [hNA.cell]; exact hNC 2 x2 rfl
                    have d3 : wr.cell? ⟨nb, 3, none⟩ = some (.int .i64 x3) := by rw [hNA.cell]; exact hNC 3 x3 rfl
                    have d4 : wr.cell? ⟨nb, 4, none⟩ = some (.int .i64 x4) := by rw [hNA.cell]; exact hNC 4 x4 rfl
                    have d5 : wr.cell? ⟨nb, 5, none⟩ = some (.int .i64 x5) := by rw [hNA.cell]; exact hNC 5 x5 rfl
                    have tb := HX13.out.box.cell
                    have tbm := HX13.out.box.melt
                    have hbA : Below wr.heap.size wr (wr.drew.alloc (.cells #[.int .i64 x0, .int .i64 x1, .int .i64 x2, .int .i64 x3, .int .i64 x4, .int .i64 x5] 52)) := (Below.drewN (Below.refl _ _) 1).alloc (Nat.le_refl _) _
                    have HOA : Hid (OwnW (wr.drew.alloc (.cells #[.int .i64 x0, .int .i64 x1, .int .i64 x2, .int .i64 x3, .int .i64 x4, .int .i64 x5] 52)) (w.heap.size + 2) (.slice ka q kc) (rsL ds (a4, 0) q)) := HO13.out.later hbA
                    have HXA : Hid (Cx w (wr.drew.alloc (.cells #[.int .i64 x0, .int .i64 x1, .int .i64 x2, .int .i64 x3, .int .i64 x4, .int .i64 x5] 52)) (.slice ca cl cc) (.slice ka q kc)) := HX13.out.later (hbA.mono HX13.out.size)
                    have HWA : Hid (Ws (wr.drew.alloc (.cells #[.int .i64 x0, .int .i64 x1, .int .i64 x2, .int .i64 x3, .int .i64 x4, .int .i64 x5] 52)) (.slice (some ⟨wr.heap.size, 0, none⟩) 1 1) [(x0, x1, x2, x3, x4, x5)]) := (OwnW.lit wr.drew 0 [(x0, x1, x2, x3, x4, x5)] #[.int .i64 x0, .int .i64 x1, .int .i64 x2, .int .i64 x3, .int .i64 x4, .int .i64 x5] 1 (Nat.zero_le _) rfl rfl (by simp [maxLen])).ws
                    have hzA := HXA.out.size
                    unfold maxLen at hnm
                    have HNA : Hid (At wr nb NC 3) := hNA
                    have HNC : Hid (∀ (k : Nat) (x : Int), (numsR (x0, x1, x2, x3, x4, x5))[k]? = some x → NC[k]? = some (.int .i64 x)) := hNC
                    clear hNA hNC
                    go_wp2_with fail
                    -- RG
                    have HNAA : Hid (At (wr.drew.alloc (.cells #[.int .i64 x0, .int .i64 x1, .int .i64 x2, .int .i64 x3, .int .i64 x4, .int .i64 x5] 52)) nb NC 3) := HNA.out.later hbA
                    have HSof : Hid (∀ W, At W nb NC 3 → W.cell? ⟨nb, 0, none⟩ = some (.int .i64 x0) ∧ W.cell? ⟨nb, 1, none⟩ = some (.int .i64 x1) ∧ W.cell? ⟨nb, 2, none⟩ = some (.int .i64 x2) ∧ W.cell? ⟨nb, 3, none⟩ = some (.int .i64 x3) ∧ W.cell? ⟨nb, 4, none⟩ = some (.int .i64 x4) ∧ W.cell? ⟨nb, 5, none⟩ = some (.int .i64 x5)) := fun W hW => ⟨by rw [hW.cell]; exact HNC.out 0 x0 rfl, by rw [hW.cell]; exact HNC.out 1 x1 rfl, by rw [hW.cell]; exact HNC.out 2 x2 rfl, by rw [hW.cell]; exact HNC.out 3 x3 rfl, by rw [hW.cell]; exact HNC.out 4 x4 rfl, by rw [hW.cell]; exact HNC.out 5 x5 rfl⟩
                    have HNbox : Hid (nb ≠ w.heap.size) := fun e => by
                      have h1 := HNA.out
                      have h2 := HX13.out.box
                      unfold At at h1 h2
                      rw [e, h2] at h1
                      simp only [Option.some.injEq, Obj.cells.injEq] at h1
                      exact absurd h1.2.1 (by decide)
                    have tbA : ∀ o, (wr.alloc (.cells #[.int .i64 x0, .int .i64 x1, .int .i64 x2, .int .i64 x3, .int .i64 x4, .int .i64 x5] 52)).cell? ⟨w.heap.size, o, none⟩ = (#[.slice ca cl cc, .slice ka q kc] : Array Value)[o]? := HXA.out.box.cell
                    clear hbA
                    refine wp_region_held_drew (S := (fun w' => w'.cell? ⟨nb, 0, none⟩ = some (.int .i64 x0) ∧ w'.cell? ⟨nb, 1, none⟩ = some (.int .i64 x1) ∧ w'.cell? ⟨nb, 2, none⟩ = some (.int .i64 x2) ∧ w'.cell? ⟨nb, 3, none⟩ = some (.int .i64 x3) ∧ w'.cell? ⟨nb, 4, none⟩ = some (.int .i64 x4) ∧ w'.cell? ⟨nb, 5, none⟩ = some (.int .i64 x5))) (by kernel_rfl) ⟨d0, d1, d2, d3, d4, d5⟩ (fun hHeld => ?_)
                    refine wpAnyH_take (i := 0) (oi := { dst := some 104, op := Op.fieldAddr 25 (Operand.tmp 7) 1, type := 0, pos := "ref.go:117", after := #[], guard := none }) (v := .pointer (some ⟨w.heap.size, 1, none⟩)) rfl (by kernel_rfl) (by kernel_rfl) (by kernel_rfl) (fun _ _ _ h => h) (Or.inl ⟨by rfl, by intro w' hSw; (try dsimp only at hSw); go_simp⟩) hHeld ?_
                    try simp only [Act.put, List.setIfInBounds_toArray, List.set_cons_zero, List.set_cons_succ]
                    refine wpAnyH_take (i := 2) (oi := { dst := some 106, op := Op.move (Operand.tmp 13), type := 49, pos := "ref.go:117", after := #[], guard := none }) (v := .slice (some ⟨nb, 0, none⟩) 6 nc) rfl (by kernel_rfl) (by kernel_rfl) (by kernel_rfl) (fun _ _ _ h => h) (Or.inl ⟨by rfl, by intro w' hSw; (try dsimp only at hSw); go_simp⟩) hHeld ?_
                    try simp only [Act.put, List.setIfInBounds_toArray, List.set_cons_zero, List.set_cons_succ]
                    refine wpAnyH_take (i := 3) (oi := { dst := some 107, op := Op.indexAddr 49 (Operand.tmp 106) (Operand.const (Value.int IntKind.i64 0)), type := 0, pos := "ref.go:117", after := #[{ on := 2, ground := Ground.data }], guard := none }) (v := .pointer (some ⟨nb, 0, none⟩)) rfl (by kernel_rfl) (by kernel_rfl) (by kernel_rfl) (fun _ _ _ h => h) (Or.inl ⟨by rfl, by intro w' hSw; (try dsimp only at hSw); go_simp⟩) hHeld ?_
                    try simp only [Act.put, List.setIfInBounds_toArray, List.set_cons_zero, List.set_cons_succ]
                    refine wpAnyH_take (i := 4) (oi := { dst := some 108, op := Op.load 3 (Operand.tmp 107), type := 3, pos := "ref.go:117", after := #[{ on := 3, ground := Ground.data }], guard := none }) (v := .int .i64 x0) rfl (by kernel_rfl) (by kernel_rfl) (by kernel_rfl) (fun _ _ _ h => h) (Or.inl ⟨by rfl, by intro w' hSw; (try dsimp only at hSw); go_simp⟩) hHeld ?_
                    try simp only [Act.put, List.setIfInBounds_toArray, List.set_cons_zero, List.set_cons_succ]
                    refine wpAnyH_take (i := 5) (oi := { dst := some 109, op := Op.move (Operand.tmp 13), type := 49, pos := "ref.go:117", after := #[], guard := none }) (v := .slice (some ⟨nb, 0, none⟩) 6 nc) rfl (by kernel_rfl) (by kernel_rfl) (by kernel_rfl) (fun _ _ _ h => h) (Or.inl ⟨by rfl, by intro w' hSw; (try dsimp only at hSw); go_simp⟩) hHeld ?_
                    try simp only [Act.put, List.setIfInBounds_toArray, List.set_cons_zero, List.set_cons_succ]
                    refine wpAnyH_take (i := 6) (oi := { dst := some 110, op := Op.indexAddr 49 (Operand.tmp 109) (Operand.const (Value.int IntKind.i64 1)), type := 0, pos := "ref.go:117", after := #[{ on := 5, ground := Ground.data }], guard := none }) (v := .pointer (some ⟨nb, 1, none⟩)) rfl (by kernel_rfl) (by kernel_rfl) (by kernel_rfl) (fun _ _ _ h => h) (Or.inl ⟨by rfl, by intro w' hSw; (try dsimp only at hSw); go_simp⟩) hHeld ?_
                    try simp only [Act.put, List.setIfInBounds_toArray, List.set_cons_zero, List.set_cons_succ]
                    refine wpAnyH_take (i := 7) (oi := { dst := some 111, op := Op.load 3 (Operand.tmp 110), type := 3, pos := "ref.go:117", after := #[{ on := 6, ground := Ground.data }], guard := none }) (v := .int .i64 x1) rfl (by kernel_rfl) (by kernel_rfl) (by kernel_rfl) (fun _ _ _ h => h) (Or.inl ⟨by rfl, by intro w' hSw; (try dsimp only at hSw); go_simp⟩) hHeld ?_
                    try simp only [Act.put, List.setIfInBounds_toArray, List.set_cons_zero, List.set_cons_succ]
                    refine wpAnyH_take (i := 8) (oi := { dst := some 112, op := Op.move (Operand.tmp 13), type := 49, pos := "ref.go:117", after := #[], guard := none }) (v := .slice (some ⟨nb, 0, none⟩) 6 nc) rfl (by kernel_rfl) (by kernel_rfl) (by kernel_rfl) (fun _ _ _ h => h) (Or.inl ⟨by rfl, by intro w' hSw; (try dsimp only at hSw); go_simp⟩) hHeld ?_
                    try simp only [Act.put, List.setIfInBounds_toArray, List.set_cons_zero, List.set_cons_succ]
                    refine wpAnyH_take (i := 9) (oi := { dst := some 113, op := Op.indexAddr 49 (Operand.tmp 112) (Operand.const (Value.int IntKind.i64 2)), type := 0, pos := "ref.go:117", after := #[{ on := 8, ground := Ground.data }], guard := none }) (v := .pointer (some ⟨nb, 2, none⟩)) rfl (by kernel_rfl) (by kernel_rfl) (by kernel_rfl) (fun _ _ _ h => h) (Or.inl ⟨by rfl, by intro w' hSw; (try dsimp only at hSw); go_simp⟩) hHeld ?_
                    try simp only [Act.put, List.setIfInBounds_toArray, List.set_cons_zero, List.set_cons_succ]
                    refine wpAnyH_take (i := 10) (oi := { dst := some 114, op := Op.load 3 (Operand.tmp 113), type := 3, pos := "ref.go:117", after := #[{ on := 9, ground := Ground.data }], guard := none }) (v := .int .i64 x2) rfl (by kernel_rfl) (by kernel_rfl) (by kernel_rfl) (fun _ _ _ h => h) (Or.inl ⟨by rfl, by intro w' hSw; (try dsimp only at hSw); go_simp⟩) hHeld ?_
                    try simp only [Act.put, List.setIfInBounds_toArray, List.set_cons_zero, List.set_cons_succ]
                    refine wpAnyH_take (i := 11) (oi := { dst := some 115, op := Op.move (Operand.tmp 13), type := 49, pos := "ref.go:117", after := #[], guard := none }) (v := .slice (some ⟨nb, 0, none⟩) 6 nc) rfl (by kernel_rfl) (by kernel_rfl) (by kernel_rfl) (fun _ _ _ h => h) (Or.inl ⟨by rfl, by intro w' hSw; (try dsimp only at hSw); go_simp⟩) hHeld ?_
                    try simp only [Act.put, List.setIfInBounds_toArray, List.set_cons_zero, List.set_cons_succ]
                    refine wpAnyH_take (i := 12) (oi := { dst := some 116, op := Op.indexAddr 49 (Operand.tmp 115) (Operand.const (Value.int IntKind.i64 3)), type := 0, pos := "ref.go:117", after := #[{ on := 11, ground := Ground.data }], guard := none }) (v := .pointer (some ⟨nb, 3, none⟩)) rfl (by kernel_rfl) (by kernel_rfl) (by kernel_rfl) (fun _ _ _ h => h) (Or.inl ⟨by rfl, by intro w' hSw; (try dsimp only at hSw); go_simp⟩) hHeld ?_
                    try simp only [Act.put, List.setIfInBounds_toArray, List.set_cons_zero, List.set_cons_succ]
                    refine wpAnyH_take (i := 13) (oi := { dst := some 117, op := Op.load 3 (Operand.tmp 116), type := 3, pos := "ref.go:117", after := #[{ on := 12, ground := Ground.data }], guard := none }) (v := .int .i64 x3) rfl (by kernel_rfl) (by kernel_rfl) (by kernel_rfl) (fun _ _ _ h => h) (Or.inl ⟨by rfl, by intro w' hSw; (try dsimp only at hSw); go_simp⟩) hHeld ?_
                    try simp only [Act.put, List.setIfInBounds_toArray, List.set_cons_zero, List.set_cons_succ]
                    refine wpAnyH_take (i := 14) (oi := { dst := some 118, op := Op.move (Operand.tmp 13), type := 49, pos := "ref.go:117", after := #[], guard := none }) (v := .slice (some ⟨nb, 0, none⟩) 6 nc) rfl (by kernel_rfl) (by kernel_rfl) (by kernel_rfl) (fun _ _ _ h => h) (Or.inl ⟨by rfl, by intro w' hSw; (try dsimp only at hSw); go_simp⟩) hHeld ?_
                    try simp only [Act.put, List.setIfInBounds_toArray, List.set_cons_zero, List.set_cons_succ]
                    refine wpAnyH_take (i := 15) (oi := { dst := some 119, op := Op.indexAddr 49 (Operand.tmp 118) (Operand.const (Value.int IntKind.i64 4)), type := 0, pos := "ref.go:117", after := #[{ on := 14, ground := Ground.data }], guard := none }) (v := .pointer (some ⟨nb, 4, none⟩)) rfl (by kernel_rfl) (by kernel_rfl) (by kernel_rfl) (fun _ _ _ h => h) (Or.inl ⟨by rfl, by intro w' hSw; (try dsimp only at hSw); go_simp⟩) hHeld ?_
                    try simp only [Act.put, List.setIfInBounds_toArray, List.set_cons_zero, List.set_cons_succ]
                    refine wpAnyH_take (i := 16) (oi := { dst := some 120, op := Op.load 3 (Operand.tmp 119), type := 3, pos := "ref.go:117", after := #[{ on := 15, ground := Ground.data }], guard := none }) (v := .int .i64 x4) rfl (by kernel_rfl) (by kernel_rfl) (by kernel_rfl) (fun _ _ _ h => h) (Or.inl ⟨by rfl, by intro w' hSw; (try dsimp only at hSw); go_simp⟩) hHeld ?_
                    try simp only [Act.put, List.setIfInBounds_toArray, List.set_cons_zero, List.set_cons_succ]
                    refine wpAnyH_take (i := 17) (oi := { dst := some 121, op := Op.move (Operand.tmp 13), type := 49, pos := "ref.go:117", after := #[], guard := none }) (v := .slice (some ⟨nb, 0, none⟩) 6 nc) rfl (by kernel_rfl) (by kernel_rfl) (by kernel_rfl) (fun _ _ _ h => h) (Or.inl ⟨by rfl, by intro w' hSw; (try dsimp only at hSw); go_simp⟩) hHeld ?_
                    try simp only [Act.put, List.setIfInBounds_toArray, List.set_cons_zero, List.set_cons_succ]
                    refine wpAnyH_take (i := 18) (oi := { dst := some 122, op := Op.indexAddr 49 (Operand.tmp 121) (Operand.const (Value.int IntKind.i64 5)), type := 0, pos := "ref.go:117", after := #[{ on := 17, ground := Ground.data }], guard := none }) (v := .pointer (some ⟨nb, 5, none⟩)) rfl (by kernel_rfl) (by kernel_rfl) (by kernel_rfl) (fun _ _ _ h => h) (Or.inl ⟨by rfl, by intro w' hSw; (try dsimp only at hSw); go_simp⟩) hHeld ?_
                    try simp only [Act.put, List.setIfInBounds_toArray, List.set_cons_zero, List.set_cons_succ]
                    refine wpAnyH_take (i := 19) (oi := { dst := some 123, op := Op.load 3 (Operand.tmp 122), type := 3, pos := "ref.go:117", after := #[{ on := 18, ground := Ground.data }], guard := none }) (v := .int .i64 x5) rfl (by kernel_rfl) (by kernel_rfl) (by kernel_rfl) (fun _ _ _ h => h) (Or.inl ⟨by rfl, by intro w' hSw; (try dsimp only at hSw); go_simp⟩) hHeld ?_
                    try simp only [Act.put, List.setIfInBounds_toArray, List.set_cons_zero, List.set_cons_succ]
                    refine wpAnyH_take (i := 20) (oi := { dst := some 124, op := Op.build 52 #[(0, Operand.tmp 108), (1, Operand.tmp 111), (2, Operand.tmp 114), (3, Operand.tmp 117), (4, Operand.tmp 120), (5, Operand.tmp 123)], type := 52, pos := "ref.go:117", after := #[{ on := 4, ground := Ground.data }, { on := 7, ground := Ground.data }, { on := 10, ground := Ground.data }, { on := 13, ground := Ground.data }, { on := 16, ground := Ground.data }, { on := 19, ground := Ground.data }], guard := none }) (v := .agg #[.int .i64 x0, .int .i64 x1, .int .i64 x2, .int .i64 x3, .int .i64 x4, .int .i64 x5]) rfl (by kernel_rfl) (by kernel_rfl) (by kernel_rfl) (fun _ _ _ h => h) (Or.inl ⟨by rfl, by intro w' hSw; (try dsimp only at hSw); go_simp⟩) hHeld ?_
                    try simp only [Act.put, List.setIfInBounds_toArray, List.set_cons_zero, List.set_cons_succ]
                    refine wpAnyH_ready (rs := [1, 21]) (by kernel_rfl) (by simp) ?_
                    refine AllReadyH.cons (o := { dst := some 105, op := Op.load 23 (Operand.tmp 104), type := 23, pos := "ref.go:117", after := #[{ on := 0, ground := Ground.data }], guard := none }) rfl (fun K hK => ?_) ?_
                    · go_simp
                      refine hK.out _ _ hHeld (fun hH2 => ?_)
                      clear hK K
                      try simp only [Act.put, List.setIfInBounds_toArray, List.set_cons_zero, List.set_cons_succ]
                      refine wpAnyH_ready (rs := [21]) (by kernel_rfl) (by simp) ?_
                      refine AllReadyH.cons (o := { dst := some 125, op := Op.buildSlice 23 1 #[(0, Operand.tmp 124)], type := 23, pos := "ref.go:117", after := #[{ on := 20, ground := Ground.data }], guard := none }) rfl (fun K hK => ?_) AllReadyH.nil
                      go_simp
                      refine hK.out _ _ (HSof.out _ HNAA.out) (fun hH3 => ?_)
                      clear hK K hH2
                      try simp only [Act.put, List.setIfInBounds_toArray, List.set_cons_zero, List.set_cons_succ]
                      refine wpAnyH_ready (rs := [22]) (by kernel_rfl) (by simp) ?_
                      refine AllReadyH.cons (o := { dst := some 126, op := Op.call { callee := Callee.builtin Builtin.append, args := #[Operand.tmp 105, Operand.tmp 125], argTypes := #[23, 23] }, type := 23, pos := "ref.go:117", after := #[{ on := 1, ground := Ground.data }, { on := 21, ground := Ground.data }], guard := none }) rfl (fun K hK => ?_) AllReadyH.nil
                      refine step_append_ws rfl (.tmp 105) (.tmp 125) rfl (w.heap.size + 2) (by simp [Act.eval, Act.put]) (by simp [Act.eval, Act.put]) HOA.out HWA.out (by rw [HLq.out]; simp; omega) hzA ?_
                      intro v14 w14 ho14 hg14
                      have hx14 := HXA.out.grown14 HOA.out hg14
                      have hN14 := HNAA.out.grownW HOA.out (by decide) hg14
                      refine hK.out _ _ (HSof.out _ hN14) (fun hH4 => ?_)
                      clear hK K
                      try simp only [Act.put, List.setIfInBounds_toArray, List.set_cons_zero, List.set_cons_succ]
                      have hl14 : (rsL ds (a4, 0) q ++ [(x0, x1, x2, x3, x4, x5)]).length = q + 1 := by rw [List.length_append, HLq.out]; rfl
                      obtain ⟨ka2, kc2, hv14, -, -⟩ := ho14.shape
                      rw [hl14] at hv14
                      subst hv14
                      have tb14 := hx14.box.cell
                      have tbm14 := hx14.box.melt
                      refine wpAnyH_take (i := 23) (oi := { dst := some 127, op := Op.fieldAddr 25 (Operand.tmp 7) 1, type := 0, pos := "ref.go:117", after := #[{ on := 0, ground := Ground.phase }, { on := 1, ground := Ground.phase }, { on := 2, ground := Ground.phase }, { on := 3, ground := Ground.phase }, { on := 4, ground := Ground.phase }, { on := 5, ground := Ground.phase }, { on := 6, ground := Ground.phase }, { on := 7, ground := Ground.phase }, { on := 8, ground := Ground.phase }, { on := 9, ground := Ground.phase }, { on := 10, ground := Ground.phase }, { on := 11, ground := Ground.phase }, { on := 12, ground := Ground.phase }, { on := 13, ground := Ground.phase }, { on := 14, ground := Ground.phase }, { on := 15, ground := Ground.phase }, { on := 16, ground := Ground.phase }, { on := 17, ground := Ground.phase }, { on := 18, ground := Ground.phase }, { on := 19, ground := Ground.phase }, { on := 20, ground := Ground.phase }, { on := 21, ground := Ground.phase }, { on := 22, ground := Ground.phase }], guard := none }) (v := .pointer (some ⟨w.heap.size, 1, none⟩)) rfl (by kernel_rfl) (by kernel_rfl) (by kernel_rfl) (fun _ _ _ h => h) (Or.inl ⟨by rfl, by intro w' hSw; (try dsimp only at hSw); go_simp⟩) hH4 ?_
                      try simp only [Act.put, List.setIfInBounds_toArray, List.set_cons_zero, List.set_cons_succ]
                      refine wpAnyH_ready (rs := [24]) (by kernel_rfl) (by simp) ?_
                      refine AllReadyH.cons (o := { dst := none, op := Op.store 23 (Operand.tmp 127) (Operand.tmp 126), type := 0, pos := "ref.go:117", after := #[{ on := 23, ground := Ground.data }, { on := 22, ground := Ground.data }, { on := 22, ground := Ground.chain }, { on := 0, ground := Ground.phase }, { on := 1, ground := Ground.phase }, { on := 2, ground := Ground.phase }, { on := 3, ground := Ground.phase }, { on := 4, ground := Ground.phase }, { on := 5, ground := Ground.phase }, { on := 6, ground := Ground.phase }, { on := 7, ground := Ground.phase }, { on := 8, ground := Ground.phase }, { on := 9, ground := Ground.phase }, { on := 10, ground := Ground.phase }, { on := 11, ground := Ground.phase }, { on := 12, ground := Ground.phase }, { on := 13, ground := Ground.phase }, { on := 14, ground := Ground.phase }, { on := 15, ground := Ground.phase }, { on := 16, ground := Ground.phase }, { on := 17, ground := Ground.phase }, { on := 18, ground := Ground.phase }, { on := 19, ground := Ground.phase }, { on := 20, ground := Ground.phase }, { on := 21, ground := Ground.phase }, { on := 22, ground := Ground.phase }], guard := none }) rfl (fun K hK => ?_) AllReadyH.nil
                      go_simp
                      refine hK.out _ _ (HSof.out _ (hN14.other (by have := HNbox.out; omega) _)) (fun hH5 => ?_)
                      clear hK K
                      refine wpAnyH_done (by kernel_rfl) ?_ _
                      have HXf : Hid (Cx w (w14.setCell ⟨w.heap.size, 1, none⟩ (.slice ka2 (q + 1) kc2)) (.slice ca cl cc) (.slice ka2 (q + 1) kc2)) := hx14.setK _
                      have HOf : Hid (OwnW (w14.setCell ⟨w.heap.size, 1, none⟩ (.slice ka2 (q + 1) kc2)) (w.heap.size + 2) (.slice ka2 (q + 1) kc2) (rsL ds (a4, 0) (q + 1))) := by
                        show OwnW _ _ _ _
                        rw [HLast.out]
                        refine ho14.of_block fun k hk _ => ?_
                        have := (ho14.block k hk).1
                        exact Below.heap_setCell _ _ _ _ (show k ≠ w.heap.size by omega)
                      clear ho14 hg14 hx14 hN14 hH4 hH5 tb14 tbm14 hl14 hHeld hH3 tb tbm d0 d1 d2 d3 d4 d5 tbA
                      go_wp2
                      go_roundw
                      case rel => exact ⟨q + 1, _, by omega, by go_num, by have := HPQ.out.1; go_num, by have h1 := HPQ.out.2.2; have h2 := HPQ.out.2.1; omega, HXf.out, HOf.out⟩
                      case measure => simp [intOf]; omega
                    · refine AllReadyH.cons (o := { dst := some 125, op := Op.buildSlice 23 1 #[(0, Operand.tmp 124)], type := 23, pos := "ref.go:117", after := #[{ on := 20, ground := Ground.data }], guard := none }) rfl (fun K hK => ?_) AllReadyH.nil
                      go_simp
                      refine hK.out _ _ (HSof.out _ HNAA.out) (fun hH2 => ?_)
                      clear hK K
                      try simp only [Act.put, List.setIfInBounds_toArray, List.set_cons_zero, List.set_cons_succ]
                      refine wpAnyH_ready (rs := [1]) (by kernel_rfl) (by simp) ?_
                      refine AllReadyH.cons (o := { dst := some 105, op := Op.load 23 (Operand.tmp 104), type := 23, pos := "ref.go:117", after := #[{ on := 0, ground := Ground.data }], guard := none }) rfl (fun K hK => ?_) AllReadyH.nil
                      go_simp
                      refine hK.out _ _ hH2 (fun hH3 => ?_)
                      clear hK K
                      try simp only [Act.put, List.setIfInBounds_toArray, List.set_cons_zero, List.set_cons_succ]
                      refine wpAnyH_ready (rs := [22]) (by kernel_rfl) (by simp) ?_
                      refine AllReadyH.cons (o := { dst := some 126, op := Op.call { callee := Callee.builtin Builtin.append, args := #[Operand.tmp 105, Operand.tmp 125], argTypes := #[23, 23] }, type := 23, pos := "ref.go:117", after := #[{ on := 1, ground := Ground.data }, { on := 21, ground := Ground.data }], guard := none }) rfl (fun K hK => ?_) AllReadyH.nil
                      refine step_append_ws rfl (.tmp 105) (.tmp 125) rfl (w.heap.size + 2) (by simp [Act.eval, Act.put]) (by simp [Act.eval, Act.put]) HOA.out HWA.out (by rw [HLq.out]; simp; omega) hzA ?_
                      intro v14 w14 ho14 hg14
                      have hx14 := HXA.out.grown14 HOA.out hg14
                      have hN14 := HNAA.out.grownW HOA.out (by decide) hg14
                      refine hK.out _ _ (HSof.out _ hN14) (fun hH4 => ?_)
                      clear hK K
                      try simp only [Act.put, List.setIfInBounds_toArray, List.set_cons_zero, List.set_cons_succ]
                      have hl14 : (rsL ds (a4, 0) q ++ [(x0, x1, x2, x3, x4, x5)]).length = q + 1 := by rw [List.length_append, HLq.out]; rfl
                      obtain ⟨ka2, kc2, hv14, -, -⟩ := ho14.shape
                      rw [hl14] at hv14
                      subst hv14
                      have tb14 := hx14.box.cell
                      have tbm14 := hx14.box.melt
                      refine wpAnyH_take (i := 23) (oi := { dst := some 127, op := Op.fieldAddr 25 (Operand.tmp 7) 1, type := 0, pos := "ref.go:117", after := #[{ on := 0, ground := Ground.phase }, { on := 1, ground := Ground.phase }, { on := 2, ground := Ground.phase }, { on := 3, ground := Ground.phase }, { on := 4, ground := Ground.phase }, { on := 5, ground := Ground.phase }, { on := 6, ground := Ground.phase }, { on := 7, ground := Ground.phase }, { on := 8, ground := Ground.phase }, { on := 9, ground := Ground.phase }, { on := 10, ground := Ground.phase }, { on := 11, ground := Ground.phase }, { on := 12, ground := Ground.phase }, { on := 13, ground := Ground.phase }, { on := 14, ground := Ground.phase }, { on := 15, ground := Ground.phase }, { on := 16, ground := Ground.phase }, { on := 17, ground := Ground.phase }, { on := 18, ground := Ground.phase }, { on := 19, ground := Ground.phase }, { on := 20, ground := Ground.phase }, { on := 21, ground := Ground.phase }, { on := 22, ground := Ground.phase }], guard := none }) (v := .pointer (some ⟨w.heap.size, 1, none⟩)) rfl (by kernel_rfl) (by kernel_rfl) (by kernel_rfl) (fun _ _ _ h => h) (Or.inl ⟨by rfl, by intro w' hSw; (try dsimp only at hSw); go_simp⟩) hH4 ?_
                      try simp only [Act.put, List.setIfInBounds_toArray, List.set_cons_zero, List.set_cons_succ]
                      refine wpAnyH_ready (rs := [24]) (by kernel_rfl) (by simp) ?_
                      refine AllReadyH.cons (o := { dst := none, op := Op.store 23 (Operand.tmp 127) (Operand.tmp 126), type := 0, pos := "ref.go:117", after := #[{ on := 23, ground := Ground.data }, { on := 22, ground := Ground.data }, { on := 22, ground := Ground.chain }, { on := 0, ground := Ground.phase }, { on := 1, ground := Ground.phase }, { on := 2, ground := Ground.phase }, { on := 3, ground := Ground.phase }, { on := 4, ground := Ground.phase }, { on := 5, ground := Ground.phase }, { on := 6, ground := Ground.phase }, { on := 7, ground := Ground.phase }, { on := 8, ground := Ground.phase }, { on := 9, ground := Ground.phase }, { on := 10, ground := Ground.phase }, { on := 11, ground := Ground.phase }, { on := 12, ground := Ground.phase }, { on := 13, ground := Ground.phase }, { on := 14, ground := Ground.phase }, { on := 15, ground := Ground.phase }, { on := 16, ground := Ground.phase }, { on := 17, ground := Ground.phase }, { on := 18, ground := Ground.phase }, { on := 19, ground := Ground.phase }, { on := 20, ground := Ground.phase }, { on := 21, ground := Ground.phase }, { on := 22, ground := Ground.phase }], guard := none }) rfl (fun K hK => ?_) AllReadyH.nil
                      go_simp
                      refine hK.out _ _ (HSof.out _ (hN14.other (by have := HNbox.out; omega) _)) (fun hH5 => ?_)
                      clear hK K
                      refine wpAnyH_done (by kernel_rfl) ?_ _
                      have HXf : Hid (Cx w (w14.setCell ⟨w.heap.size, 1, none⟩ (.slice ka2 (q + 1) kc2)) (.slice ca cl cc) (.slice ka2 (q + 1) kc2)) := hx14.setK _
                      have HOf : Hid (OwnW (w14.setCell ⟨w.heap.size, 1, none⟩ (.slice ka2 (q + 1) kc2)) (w.heap.size + 2) (.slice ka2 (q + 1) kc2) (rsL ds (a4, 0) (q + 1))) := by
                        show OwnW _ _ _ _
                        rw [HLast.out]
                        refine ho14.of_block fun k hk _ => ?_
                        have := (ho14.block k hk).1
                        exact Below.heap_setCell _ _ _ _ (show k ≠ w.heap.size by omega)
                      clear ho14 hg14 hx14 hN14 hH4 hH5 tb14 tbm14 hl14 hHeld hH2 hH3 tb tbm d0 d1 d2 d3 d4 d5 tbA
                      go_wp2
                      go_roundw
                      case rel => exact ⟨q + 1, _, by omega, by go_num, by have := HPQ.out.1; go_num, by have h1 := HPQ.out.2.2; have h2 := HPQ.out.2.1; omega, HXf.out, HOf.out⟩
                      case measure => simp [intOf]; omega
            · -- END
              have hqq : q = nn := by omega
              subst hqq
              obtain ⟨hS, hL⟩ := cs_all HC4.out (by rw [HNN.out]; have := HPQ.out.2.2; omega)
              rw [HNN.out] at hS hL
              have HE : Hid (csS ds (r, 0) = (aq, 0) ∧ csL ds (r, 0) = rsL ds (a4, 0) q) := ⟨by rw [hS, HPQ.out.2.2], hL⟩
              have HLq : Hid ((rsL ds (a4, 0) q).length = q) := rsL_length _ _ _
              obtain ⟨q1, q2⟩ := HDone.out wr _ (.slice ca cl cc) (.slice ka q kc) (pq : Int) 0 HX.out
              unfold resW at q1 q2
              have HQ2 : Hid (Below w.heap.size w ((((wr.setCell ⟨w.heap.size + 1, 0, none⟩ (.slice ca cl cc)).setCell ⟨w.heap.size + 1, 1, none⟩ (.slice ka q kc)).setCell ⟨w.heap.size + 1, 2, none⟩ (.int .i64 (pq : Int))).setCell ⟨w.heap.size + 1, 3, none⟩ (.int .i64 0))) := q2
              have hge := HX.out.size
              have HWf : Hid (Ws ((((wr.setCell ⟨w.heap.size + 1, 0, none⟩ (.slice ca cl cc)).setCell ⟨w.heap.size + 1, 1, none⟩ (.slice ka q kc)).setCell ⟨w.heap.size + 1, 2, none⟩ (.int .i64 (pq : Int))).setCell ⟨w.heap.size + 1, 3, none⟩ (.int .i64 0)) (.slice ka q kc) (rsL ds (a4, 0) q)) := by
                refine OwnW.ws (base := w.heap.size + 2) (HOW.out.of_block fun k hk _ => ?_)
                have := (HOW.out.block k hk).1
                rw [Below.heap_setCell _ _ _ _ (show k ≠ w.heap.size + 1 by omega), Below.heap_setCell _ _ _ _ (show k ≠ w.heap.size + 1 by omega), Below.heap_setCell _ _ _ _ (show k ≠ w.heap.size + 1 by omega), Below.heap_setCell _ _ _ _ (show k ≠ w.heap.size + 1 by omega)]
              clear q2 hS hL
              go_wp2
              exact bodyPost_ret (v := .agg #[.slice ca cl cc, .slice ka q kc, .int .i64 (pq : Int), .int .i64 0]) (by simp [results, Try.results29, go_sem, q1]) rfl ((HGot.out _ _).2 (by rw [HE.out.1, HE.out.2, HLq.out, ← HPQ.out.2.1]; exact ⟨fun h => absurd rfl h, fun _ => ⟨ka, kc, rfl, HWf.out, fun k hk => by have := (HOW.out.block k hk).1; omega⟩, HQ2.out⟩))

end Go.Proofs.Ytfgjlljbpcombaa
