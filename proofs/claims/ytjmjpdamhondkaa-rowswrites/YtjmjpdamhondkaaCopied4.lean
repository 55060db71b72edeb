
/- copied of layer 4's statements: tables of their own. -/
import Derived.Test.YtjmjpdamhondkaaReadTabs4
namespace Go.Proofs.Ytjmjpdamhondkaa
set_option linter.unusedVariables false
set_option linter.unusedSimpArgs false
open Go.RowKit Go.Maps

/-- Tables under way, in memory from lo on. -/
structure Cp (w : World) (lo : Nat) (gv : Value) (ts : List Value) (T : List (List (List Int))) : Prop where
  own : OwnV w lo 65 gv ts
  len : ts.length = T.length
  tab : ∀ i (h : i < T.length) (g : i < ts.length), ∃ us, Tb w lo ts[i] us T[i]
theorem Cp.nil (w : World) (lo : Nat) : Cp w lo (.slice none 0 0) [] [] := ⟨OwnV.nil _ _ _, rfl, fun i h => by simp at h⟩
theorem Cp.later {w w' : World} {lo : Nat} {gv : Value} {ts : List Value} {T : List (List (List Int))} (h : Cp w lo gv ts T) (hb : Below w.heap.size w w') : Cp w' lo gv ts T :=
  ⟨h.own.later hb, h.len, fun i a b => by obtain ⟨us, ht⟩ := h.tab i a b; exact ⟨us, ht.keep fun k _ hlt => hb.block k hlt⟩⟩
/-- A block that is no row of tables', no table's and no row's has turned. -/
theorem Cp.other {w w' : World} {lo : Nat} {gv : Value} {ts : List Value} {T : List (List (List Int))} (h : Cp w lo gv ts T) (hk : ∀ (k : Nat) C t, w.heap[k]? = some (Obj.cells C t (0, 0)) → t = 65 ∨ t = 62 ∨ t = 3 → w'.heap[k]? = w.heap[k]?) : Cp w' lo gv ts T := by
  refine ⟨h.own.of_block fun k hv _ => ?_, h.len, fun i a b => ?_⟩
  · obtain ⟨C, hC⟩ := h.own.typed k hv
    exact hk k C _ hC (.inl rfl)
  · obtain ⟨us, ht⟩ := h.tab i a b
    refine ⟨us, ht.own.of_block fun k hv _ => ?_, ht.len, fun j x y => (ht.row j x y).of_block fun k hv _ => ?_⟩
    · obtain ⟨C, hC⟩ := ht.own.typed k hv
      exact hk k C _ hC (.inr (.inl rfl))
    · obtain ⟨C, hC⟩ := (ht.row j x y).typed k hv
      exact hk k C _ hC (.inr (.inr rfl))
theorem Tb.low {w : World} {lo lo' : Nat} {v : Value} {us : List Value} {rows : List (List Int)} (h : Tb w lo v us rows) (hl : lo' ≤ lo) : Tb w lo' v us rows :=
  ⟨h.own.low hl, h.len, fun i a b => (h.row i a b).low hl⟩
theorem Cp.snoc {w w1 : World} {lo : Nat} {gv gv1 own : Value} {ts us : List Value} {T : List (List (List Int))} {rows : List (List Int)} (h : Cp w lo gv ts T) (ht : Tb w lo own us rows) (hg : w.grownBy w1 gv.ownBlock) (ho : OwnV w1 lo 65 gv1 (ts ++ [own])) : Cp w1 lo gv1 (ts ++ [own]) (T ++ [rows]) := by
  have key : ∀ {x : Value} {us : List Value} {l : List (List Int)}, Tb w lo x us l → Tb w1 lo x us l := fun hx => by
    refine ⟨hx.own.of_block fun k hv _ => ?_, hx.len, fun j a b => (hx.row j a b).of_block fun k hv _ => ?_⟩
    · obtain ⟨C, hC⟩ := hx.own.typed k hv
      exact other_typed h.own hg k C _ _ hC (by decide)
    · obtain ⟨C, hC⟩ := (hx.row j a b).typed k hv
      exact other_typed h.own hg k C _ _ hC (by decide)
  refine ⟨ho, by simp [h.len], fun i a b => ?_⟩
  simp only [List.length_append, List.length_cons, List.length_nil] at a b
  by_cases hi : i < T.length
  · rw [List.getElem_append_left (by rw [h.len]; exact hi), List.getElem_append_left hi]
    obtain ⟨us, h1⟩ := h.tab i hi (by rw [h.len]; exact hi)
    exact ⟨us, key h1⟩
  · have e1 : i = T.length := by omega
    subst e1
    have e2 : (ts ++ [own])[T.length]'(by simp [h.len]) = own := by
      rw [List.getElem_append_right (by rw [h.len]; omega)]; simp [h.len]
    have e3 : (T ++ [rows])[T.length]'(by simp) = rows := by simp
    rw [e2, e3]; exact ⟨us, key ht⟩
theorem Cp.in3 {w : World} {lo : Nat} {gv : Value} {ts : List Value} {T : List (List (List Int))} (h : Cp w lo gv ts T) : In3 w gv T :=
  ⟨ts, h.len, h.own.sl, fun i a b => by obtain ⟨us, ht⟩ := h.tab i a b; exact ht.q.in2⟩

theorem i64s_src {P : Program} {w : World} {y : Value} {l : List Int} (h : In1 w y l) {tx e' : TypeId} (hk : P.underlying tx = some (.slice e')) : Src P 1 tx y l.length (i64s l) w := by
  have := Sl.src (P := P) h hk (i64s_one l)
  rwa [List.length_map] at this

set_option maxHeartbeats 2000000 in
theorem copied4_any {w : World} {v : Value} {T : List (List (List Int))} (en : Int) (hv : In3 w v T) (h1 : T.length ≤ 20) (h2 : ∀ l ∈ T, l.length ≤ 100) (h3 : ∀ l ∈ T, ∀ row ∈ l, row.length ≤ 20) :
    Calls Try.prog 13 #[.agg #[.int .i64 en, v]] w fun e w' => ∃ a c, e = .returned (.agg #[.int .i64 en, .slice a T.length c]) ∧ In3 w' (.slice a T.length c) T ∧ Below w.heap.size w w' := by
  have HV : Hid (In3 w v T) := hv
  obtain ⟨a, c, rfl, hc1, hc2⟩ := Ns.shape hv
  unfold maxLen at hc2
  have H2 : Hid (∀ l ∈ T, l.length ≤ 100) := h2
  have H3 : Hid (∀ l ∈ T, ∀ row ∈ l, row.length ≤ 20) := h3
  clear hv h2 h3
  go_enter Try.func13, Try.ntmps13
  go_wp2_with fail
  go_loopw [15] (fun x wr => ∃ (i : Nat) (gv : Value) (ts : List Value), i ≤ T.length ∧ x = .int .i64 i ∧ Cp wr (w.heap.size + 3) gv ts (T.take i) ∧ Below w.heap.size w wr ∧ wr.heap[w.heap.size + 1]? = some (Obj.cells #[.int .i64 0, .slice none 0 0] 26 (0, 0)) ∧ wr.heap[w.heap.size + 1 + 1]? = some (Obj.cells #[.int .i64 en, gv] 26 (0, 0))) (fun x _ => T.length - (intOf x).toNat)
  case atStart =>
    refine ⟨0, .slice none 0 0, [], by omega, rfl, Cp.nil _ _, (((Below.refl _ _).alloc (Nat.le_refl _) _).alloc (by simp) _).alloc (by simp; omega) _, ?_, ?_⟩
    · refine (heap_alloc_old _ _ (by simp)).trans ?_
      have := heap_alloc_new (w.alloc (Obj.cells #[.int .i64 en, .slice a T.length c] 26)) (Obj.cells #[.int .i64 0, .slice none 0 0] 26)
      rw [World.size_alloc] at this
      exact this
    · have := heap_alloc_new ((w.alloc (Obj.cells #[.int .i64 en, .slice a T.length c] 26)).alloc (Obj.cells #[.int .i64 0, .slice none 0 0] 26)) (Obj.cells #[.int .i64 en, .slice none 0 0] 26)
      rw [World.size_alloc, World.size_alloc] at this
      exact this
  case round =>
    obtain ⟨i, gv, ts, hi, rfl, hcp, hbl, hre, hou⟩ := hrel
    have HC : Hid (Cp wr (w.heap.size + 3) gv ts (T.take i)) := hcp
    have HB : Hid (Below w.heap.size w wr) := hbl
    have HRE : Hid (wr.heap[w.heap.size + 1]? = some (Obj.cells #[.int .i64 0, .slice none 0 0] 26 (0, 0))) := hre
    have HOU : Hid (wr.heap[w.heap.size + 1 + 1]? = some (Obj.cells #[.int .i64 en, gv] 26 (0, 0))) := hou
    have hsw := (Array.getElem?_eq_some_iff.1 hou).1
    obtain ⟨x, y, hgv, -⟩ := hcp.own.sl
    have htl : ts.length = i := by
      rw [hcp.len]; simp; omega
    rw [htl] at hgv
    subst hgv
    have HTL : Hid (ts.length = i) := htl
    clear hcp hbl hre hou htl
    by_cases hlt : i < T.length
    · obtain ⟨b, off, c', a1, p1, he, hcell0, hin, hlm⟩ := HV.out.tab i hlt
      simp only [Value.slice.injEq] at he
      obtain ⟨rfl, -, rfl⟩ := he
      have hcell := cell_later hcell0 HB.out
      have HIN : Hid (In2 w (.slice a1 (T[i]).length p1) T[i]) := hin
      have hl100 := H2.out T[i] (List.getElem_mem _)
      have HRL : Hid (∀ row ∈ T[i], row.length ≤ 20) := H3.out T[i] (List.getElem_mem _)
      have HTS : Hid (T.take (i + 1) = T.take i ++ [T[i]]) := take_tab hlt
      clear hin hlm hcell0
      generalize T[i] = l at *
      have hdi : decide ((i : Int) < (T.length : Int)) = true := by rw [decide_eq_true_eq]; omega
      have hii : (i : Int) < (T.length : Int) := by omega
      obtain ⟨wo, rfl⟩ : ∃ wo, wo = wr := ⟨_, rfl⟩
      go_wp2_with fail
      go_loopw [6, 21] (fun ow z wr => ∃ (k : Nat) (us : List Value), k ≤ l.length ∧ z = .int .i64 k ∧ Below wo.heap.size wo wr ∧ Tb wr wo.heap.size ow us (l.take k)) (fun _ z _ => l.length - (intOf z).toNat)
      case atStart => exact ⟨0, [], by omega, rfl, Below.refl _ _, Tb.nil _ _⟩
      case round =>
        obtain ⟨k, us, hk, rfl, hbq, htb⟩ := hrel
        have HBQ : Hid (Below wo.heap.size wo wr) := hbq
        have HTB : Hid (Tb wr wo.heap.size u6 us (l.take k)) := htb
        have hul : us.length = k := by rw [htb.len]; simp; omega
        have HUL : Hid (us.length = k) := hul
        obtain ⟨ox, oy, hoe, -⟩ := htb.own.sl
        rw [hul] at hoe
        subst hoe
        have hsq := hbq.size
        have HBW : Hid (Below w.heap.size w wr) := HB.out.trans (hbq.mono HB.out.size)
        clear hbq htb hul
        by_cases hkl : k < l.length
        · obtain ⟨b3, o3, c3, a3, p3, e3, hc30, hi3, hm3⟩ := HIN.out.row k hkl
          simp only [Value.slice.injEq] at e3
          obtain ⟨rfl, -, rfl⟩ := e3
          have hc3 := cell_later hc30 HBW.out
          have hr20 := HRL.out l[k] (List.getElem_mem _)
          have HI3 : Hid (∀ W, Below w.heap.size w W → In1 W (.slice a3 (l[k]).length p3) l[k]) := fun W hW => hi3.later hW
          have HTS2 : Hid (l.take (k + 1) = l.take k ++ [l[k]]) := List.take_succ_eq_append_getElem hkl
          have hdk : decide ((k : Int) < (l.length : Int)) = true := by rw [decide_eq_true_eq]; omega
          have hkk : (k : Int) < (l.length : Int) := by omega
          obtain ⟨row, hrow⟩ : ∃ row, row = l[k] := ⟨_, rfl⟩
          rw [← hrow] at hc3 hr20 HI3 HTS2
          clear hrow hi3 hc30 hm3
          have hb4 : Below wr.heap.size wr (wr.alloc (Obj.cells #[] 3)) := (Below.refl _ _).alloc (Nat.le_refl _) _
          have HE4 : Hid (OwnV (wr.alloc (Obj.cells #[] 3)) wr.heap.size 3 (.slice (some ⟨wr.heap.size, 0, none⟩) 0 0) []) := OwnV.lit wr wr.heap.size 3 [] #[] 0 (Nat.le_refl _) rfl rfl (by simp [maxLen])
          have HS4 : Hid (Src Try.prog 1 62 (.slice a3 row.length p3) row.length (i64s row) (wr.alloc (Obj.cells #[] 3))) := i64s_src (HI3.out _ (HBW.out.trans (hb4.mono HBW.out.size))) Try.underlying62
          go_wp2_with (at_builtin; go_must (refine wpList_append_at rfl _ _ _ _ rfl wr.heap.size 3 (.int .i64 0) 8 Try.underlying62 Try.infoInt rfl rfl rfl HE4.out HS4.out (by simp [maxLen]; omega) (by simp; omega) (by simp) ?_))
          intro u5 w5 ho5 hg5 _ _
          have hb5 : Below wr.heap.size wr w5 := hb4.grown hg5 (by simp) (fun j hj => (HE4.out.block j hj).1)
          have HO5 : Hid (OwnV w5 wr.heap.size 3 u5 (i64s row)) := ho5
          obtain ⟨rx, ry, hre5, -⟩ := HO5.out.sl
          rw [i64s_length] at hre5
          subst hre5
          have HTB5 : Hid (Tb w5 wo.heap.size (.slice ox k oy) us (l.take k)) := HTB.out.keep fun j _ hlt => hb5.block j hlt
          have HB5 : Hid (Below wo.heap.size wo w5) := HBQ.out.trans (hb5.mono hsq)
          have hs5 := hb5.size
          clear ho5 hg5 hb4 HE4 HS4 hb5
          have hb6 : Below w5.heap.size w5 (w5.alloc (Obj.cells #[.slice rx row.length ry] 62)) := (Below.refl _ _).alloc (Nat.le_refl _) _
          have HTB6 : Hid (Tb (w5.alloc (Obj.cells #[.slice rx row.length ry] 62)) wo.heap.size (.slice ox k oy) us (l.take k)) := HTB5.out.keep fun j _ hlt => hb6.block j hlt
          have HO6 : Hid (OwnV (w5.alloc (Obj.cells #[.slice rx row.length ry] 62)) wo.heap.size 3 (.slice rx row.length ry) (i64s row)) := (HO5.out.later hb6).low hsq
          have HUL2 := HUL.out
          go_wp2_with (at_builtin; go_must (refine wpList_append_at rfl _ _ _ _ rfl wo.heap.size 62 (.slice none 0 0) 24 Try.underlying65 Try.infoRow rfl rfl rfl HTB6.out.own (one_src0 Try.underlying65 _ _ _ _ (by simp) rfl) (by rw [HUL2]; unfold maxLen; omega) (by rw [HUL2]; omega) (by simp; omega) ?_))
          intro v7 w7 ho7 hg7 _ _
          have HTB7 : Hid (Tb w7 wo.heap.size v7 (us ++ [.slice rx row.length ry]) (l.take (k + 1))) := by
            rw [HTS2.out]; exact HTB6.out.snoc HO6.out hg7 ho7
          have HB7 : Hid (Below wo.heap.size wo w7) := HB5.out.trans ((hb6.mono (by omega)).grown hg7 (by simp; omega) (fun j hj => (HTB6.out.own.block j hj).1))
          clear ho7 hg7 hb6 HTB6 HTB5 HO6 HO5
          go_wp2_with fail
          go_roundw
          case rel => exact ⟨k + 1, _, by omega, by go_num, HB7.out, HTB7.out⟩
          case measure => simp [intOf]; omega
        · have hdk : decide ((k : Int) < (l.length : Int)) = false := by rw [decide_eq_false_iff_not]; omega
          have HTB2 : Hid (Tb wr (w.heap.size + 3) (.slice ox k oy) us l) := by
            have := HTB.out
            rw [List.take_of_length_le (by omega)] at this
            exact this.low (by omega)
          have HC2 : Hid (Cp wr (w.heap.size + 3) (.slice x i y) ts (T.take i)) := HC.out.later HBQ.out
          have HRE2 : Hid (wr.heap[w.heap.size + 1]? = some (Obj.cells #[.int .i64 0, .slice none 0 0] 26 (0, 0))) := (HBQ.out.block _ (by omega)).trans HRE.out
          have HOU2 : Hid (wr.heap[w.heap.size + 1 + 1]? = some (Obj.cells #[.int .i64 en, .slice x i y] 26 (0, 0))) := (HBQ.out.block _ (by omega)).trans HOU.out
          obtain ⟨d0, d1⟩ := box2 HOU2.out
          have hb6 : Below wr.heap.size wr (wr.alloc (Obj.cells #[.slice ox k oy] 65)) := (Below.refl _ _).alloc (Nat.le_refl _) _
          have HC6 : Hid (Cp (wr.alloc (Obj.cells #[.slice ox k oy] 65)) (w.heap.size + 3) (.slice x i y) ts (T.take i)) := HC2.out.later hb6
          have HTB6 : Hid (Tb (wr.alloc (Obj.cells #[.slice ox k oy] 65)) (w.heap.size + 3) (.slice ox k oy) us l) := HTB2.out.keep fun j _ hlt => hb6.block j hlt
          have HTL2 := HTL.out
          go_wp2_with (at_builtin; go_must (refine wpList_append_at rfl _ _ _ _ rfl (w.heap.size + 3) 65 (.slice none 0 0) 24 Try.underlying24 Try.infoTab rfl rfl rfl HC6.out.own (one_src0 Try.underlying24 _ _ _ _ (by simp) rfl) (by rw [HTL2]; unfold maxLen; omega) (by rw [HTL2]; omega) (by simp; omega) ?_))
          intro v7 w7 ho7 hg7 _ _
          have HC7 : Hid (Cp w7 (w.heap.size + 3) v7 (ts ++ [.slice ox k oy]) (T.take (i + 1))) := by
            rw [HTS.out]; exact HC6.out.snoc HTB6.out hg7 ho7
          have hb7 : Below (w.heap.size + 3) wr w7 := (hb6.mono (by omega)).grown hg7 (by simp; omega) (fun j hj => (HC6.out.own.block j hj).1)
          have HB7 : Hid (Below w.heap.size w w7) := HBW.out.trans (hb7.mono (by omega))
          have HRE7 : Hid (w7.heap[w.heap.size + 1]? = some (Obj.cells #[.int .i64 0, .slice none 0 0] 26 (0, 0))) := (hb7.block _ (by omega)).trans HRE2.out
          have HOU7 : Hid (w7.heap[w.heap.size + 1 + 1]? = some (Obj.cells #[.int .i64 en, .slice x i y] 26 (0, 0))) := (hb7.block _ (by omega)).trans HOU2.out
          obtain ⟨gx, gy, hge, -⟩ := HC7.out.own.sl
          have hgl : (ts ++ [Value.slice ox k oy]).length = i + 1 := by rw [List.length_append, HTL2]; rfl
          rw [hgl] at hge
          subst hge
          clear ho7 hg7 hb6 HC6 HTB6 hb7 d0 d1 hgl
          obtain ⟨d0, d1⟩ := box2 HOU7.out
          have z1 := melt2 HOU7.out 1
          have HSET : Hid (∀ W, W = w7.setCell ⟨w.heap.size + 1 + 1, 1, none⟩ (.slice gx (i + 1) gy) → Cp W (w.heap.size + 3) (.slice gx (i + 1) gy) (ts ++ [.slice ox k oy]) (T.take (i + 1)) ∧ Below w.heap.size w W ∧ W.heap[w.heap.size + 1]? = some (Obj.cells #[.int .i64 0, .slice none 0 0] 26 (0, 0)) ∧ W.heap[w.heap.size + 1 + 1]? = some (Obj.cells #[.int .i64 en, .slice gx (i + 1) gy] 26 (0, 0))) := fun W hW => by
            have hoth : ∀ j, j ≠ w.heap.size + 1 + 1 → W.heap[j]? = w7.heap[j]? := fun j hj => by rw [hW]; exact Below.heap_setCell _ _ _ _ hj
            refine ⟨HC7.out.other fun j C t hj ht => hoth j fun e => ?_, HB7.out.trans ⟨by rw [hW]; rfl, by rw [hW]; rfl, by rw [hW]; rfl, by rw [hW]; simp [World.setCell], fun j hj => hoth j (by omega)⟩, (hoth _ (by omega)).trans HRE7.out, ?_⟩
            · rw [e, HOU7.out] at hj
              simp only [Option.some.injEq, Obj.cells.injEq] at hj
              rw [← hj.2.1] at ht
              revert ht; decide
            · rw [hW, setCell_eq_setRow _ _ 1 _ _ _ _ HOU7.out, setRow_heap _ _ _ _ _ _ HOU7.out]
              simp
          go_wp2_with fail
          obtain ⟨q1, q2, q3, q4⟩ := HSET.out _ rfl
          go_roundw
          case rel => exact ⟨i + 1, _, _, by omega, by go_num, q1, q2, q3, q4⟩
          case measure => simp [intOf]; omega
    · have hdi : decide ((i : Int) < (T.length : Int)) = false := by rw [decide_eq_false_iff_not]; omega
      have hiT : i = T.length := by omega
      have HC2 : Hid (Cp wr (w.heap.size + 3) (.slice x i y) ts T) := by
        have := HC.out
        rw [List.take_of_length_le (by omega)] at this
        exact this
      obtain ⟨d0, d1⟩ := box2 HOU.out
      obtain ⟨f0, f1⟩ := box2 HRE.out
      have z0 := melt2 HRE.out 0
      have z1 := melt2 HRE.out 1
      have HIT : Hid (i = T.length) := hiT
      clear hiT
      go_wp2_with fail
      obtain ⟨q0, q1, q2, -, q4⟩ := res2 HRE.out (.int .i64 en) (.slice x i y) _ rfl
      have hcp := HC2.out.other (w' := (wr.setCell ⟨w.heap.size + 1, 0, none⟩ (.int .i64 en)).setCell ⟨w.heap.size + 1, 1, none⟩ (.slice x i y)) fun j C t hj ht => q0.block j (Array.getElem?_eq_some_iff.1 hj).1 fun e => by
        rw [e, HRE.out] at hj
        simp only [Option.some.injEq, Obj.cells.injEq] at hj
        rw [← hj.2.1] at ht
        revert ht; decide
      exact bodyPost_ret (v := .agg #[.int .i64 en, .slice x i y]) (by simp [results, Try.results13, go_sem, q1, q2]) rfl ⟨x, y, by rw [HIT.out], by rw [← HIT.out]; exact hcp.in3, HB.out.trans (q0.below (by omega) HB.out.size)⟩

end Go.Proofs.Ytjmjpdamhondkaa
