
/- Join of the references. -/
import Derived.Test.YtbehcdpjpjklfaaRows
import Derived.Test.YtbehcdpjpjklfaaSplitter
import Derived.Test.YtbehcdpjpjklfaaJoin3
import Derived.Test.YtbehcdpjpjklfaaRefSame3
namespace Go.Proofs.Ytbehcdpjpjklfaa
set_option linter.unusedVariables false
set_option linter.unusedSimpArgs false
open Go.RowKit Go.Maps

/-- What the references' Join holds while it goes on: the head so far, the body so far, the streams. -/
structure Jr (w0 w : World) (p0 p1 p2 p3 hv bv : Value) (H B : List UInt8) : Prop where
  hd : Own w w0.heap.size 5 hv H
  bd : Own w w0.heap.size 5 bv B
  ne : ∀ j, hv.ownBlock = some j → bv.ownBlock ≠ some j
  below : Below w0.heap.size w0 w
  prt : w.heap[w0.heap.size]? = some (Obj.cells #[p0, p1, p2, p3] 25 (0, 0))

theorem Jr.later {w0 w w' : World} {p0 p1 p2 p3 hv bv : Value} {H B : List UInt8} (h : Jr w0 w p0 p1 p2 p3 hv bv H B) (hb : Below w.heap.size w w') : Jr w0 w' p0 p1 p2 p3 hv bv H B :=
  ⟨h.hd.later hb, h.bd.later hb, h.ne, h.below.trans (hb.mono h.below.size), (hb.block _ (Array.getElem?_eq_some_iff.1 h.prt).1).trans h.prt⟩
theorem Jr.keep {w0 w w' : World} {p0 p1 p2 p3 hv bv v : Value} {H B X : List UInt8} (h : Jr w0 w p0 p1 p2 p3 hv bv H B) (hv' : Own w w0.heap.size 5 v X) (hg : w.grownBy w' v.ownBlock) :
    Below w0.heap.size w0 w' ∧ w'.heap[w0.heap.size]? = some (Obj.cells #[p0, p1, p2, p3] 25 (0, 0)) := by
  refine ⟨h.below.trans ⟨hg.os, hg.tape, hg.output, hg.size, fun k hk => hg.block k (by have := h.below.size; omega) fun e => ?_⟩, (hg.block _ (Array.getElem?_eq_some_iff.1 h.prt).1 fun e => ?_).trans h.prt⟩
  · have := (hv'.block k e.symm).1
    omega
  · obtain ⟨C', hC'⟩ := row_typed hv' _ e.symm
    exact ne_typed h.prt hC' (by decide) rfl
theorem Jr.body {w0 w w' : World} {p0 p1 p2 p3 hv bv bv' : Value} {H B B' : List UInt8} (h : Jr w0 w p0 p1 p2 p3 hv bv H B) (ha : Ap w w' w0.heap.size bv bv' B') : Jr w0 w' p0 p1 p2 p3 hv bv' H B' := by
  obtain ⟨k1, k3⟩ := h.keep h.bd ha.grown
  refine ⟨own_of_block h.hd fun k hk => ha.grown.block k (h.hd.block k hk).2 fun e => h.ne k hk e.symm, ha.own, fun j hj e => ?_, k1, k3⟩
  rcases ha.place with g | ⟨k, g, hk⟩
  · rw [g] at e; exact h.ne j hj e
  · rw [g] at e; cases e
    have := (h.hd.block _ hj).2
    omega
theorem Jr.head {w0 w w' : World} {p0 p1 p2 p3 hv hv' bv : Value} {H H' B : List UInt8} (h : Jr w0 w p0 p1 p2 p3 hv bv H B) (ha : Ap w w' w0.heap.size hv hv' H') : Jr w0 w' p0 p1 p2 p3 hv' bv H' B := by
  obtain ⟨k1, k3⟩ := h.keep h.hd ha.grown
  refine ⟨ha.own, own_of_block h.bd fun k hk => ha.grown.block k (h.bd.block k hk).2 fun e => h.ne k e.symm hk, fun j hj e => ?_, k1, k3⟩
  rcases ha.place with g | ⟨k, g, hk⟩
  · rw [g] at hj; exact h.ne j hj e
  · rw [g] at hj; cases hj
    have := (h.bd.block _ e).2
    omega
theorem Jr.appH {w0 w w1 : World} {p0 p1 p2 p3 hv bv v1 : Value} {H B ys : List UInt8} (h : Jr w0 w p0 p1 p2 p3 hv bv H B) (ho : OwnV w1 w0.heap.size 5 v1 (u8s H ++ u8s ys)) (hg : w.grownBy w1 hv.ownBlock) (hp : v1.ownBlock = hv.ownBlock ∨ v1.ownBlock = some w.heap.size) : Jr w0 w1 p0 p1 p2 p3 v1 bv (H ++ ys) B :=
  h.head ((Ap.refl h.hd h.below.size).app ho hg hp)
theorem Jr.appB {w0 w w1 : World} {p0 p1 p2 p3 hv bv v1 : Value} {H B ys : List UInt8} (h : Jr w0 w p0 p1 p2 p3 hv bv H B) (ho : OwnV w1 w0.heap.size 5 v1 (u8s B ++ u8s ys)) (hg : w.grownBy w1 bv.ownBlock) (hp : v1.ownBlock = bv.ownBlock ∨ v1.ownBlock = some w.heap.size) : Jr w0 w1 p0 p1 p2 p3 hv v1 H (B ++ ys) :=
  h.body ((Ap.refl h.bd h.below.size).app ho hg hp)
theorem Jr.shapeH {w0 w : World} {p0 p1 p2 p3 hv bv : Value} {H B : List UInt8} (h : Jr w0 w p0 p1 p2 p3 hv bv H B) : ∃ a c, hv = .slice a H.length c := by
  obtain ⟨a, c, e, _⟩ := h.hd.bs
  exact ⟨a, c, e⟩
theorem Jr.shapeB {w0 w : World} {p0 p1 p2 p3 hv bv : Value} {H B : List UInt8} (h : Jr w0 w p0 p1 p2 p3 hv bv H B) : ∃ a c, bv = .slice a B.length c ∧ B.length ≤ c ∧ c ≤ maxLen := by
  obtain ⟨a, c, e, h1, h2, _⟩ := h.bd.bs
  exact ⟨a, c, e, h1, h2⟩
theorem Jr.cells {w0 w : World} {p0 p1 p2 p3 hv bv : Value} {H B : List UInt8} (h : Jr w0 w p0 p1 p2 p3 hv bv H B) : w.cell? ⟨w0.heap.size, 0, none⟩ = some p0 ∧ w.cell? ⟨w0.heap.size, 1, none⟩ = some p1 ∧ w.cell? ⟨w0.heap.size, 2, none⟩ = some p2 ∧ w.cell? ⟨w0.heap.size, 3, none⟩ = some p3 := by
  refine ⟨?_, ?_, ?_, ?_⟩ <;> simp [World.cell?, h.prt]

set_option maxRecDepth 100000 in
set_option maxHeartbeats 1000000 in
theorem refJoin_yes {v : Value} {s : Strm} {w : World} (hv : Sv w v s) (hl : ∀ k, (s.part k).length ≤ 4000) :
    Calls Try.prog 17 #[v] w fun e w' => ∃ bv, e = .returned (.tuple #[bv, .int .i64 0]) ∧ Bs w' bv (joinB s) ∧ Below w.heap.size w w' := by
  obtain ⟨p0, p1, p2, p3, rfl, h0, h1, h2, h3⟩ := hv
  have HP : Hid (∀ k, Bs w (pickV k p0 p1 p2 p3) (s.part k)) := fun k => pickV_bs h0 h1 h2 h3 k
  have HL : Hid (∀ k, (s.part k).length ≤ 4000) := hl
  have HBL : Hid _ := body_le s hl
  have HHL : Hid _ := head_length s
  obtain ⟨a0, c0, rfl, -⟩ := h0
  obtain ⟨a1, c1, rfl, -⟩ := h1
  obtain ⟨a2, c2, rfl, -⟩ := h2
  obtain ⟨a3, c3, rfl, -⟩ := h3
  generalize s.r.length = l0 at *
  generalize s.n.length = l1 at *
  generalize s.b.length = l2 at *
  generalize s.c.length = l3 at *
  -- the k-th stream, as Part hands it back
  have HPT : Hid (∀ k, k < 4 → ∃ a c, pickV k (.slice a0 l0 c0) (.slice a1 l1 c1) (.slice a2 l2 c2) (.slice a3 l3 c3) = .slice a (s.part k).length c ∧ ∀ W, Calls Try.prog 27 #[.agg #[.slice a0 l0 c0, .slice a1 l1 c1, .slice a2 l2 c2, .slice a3 l3 c3], .int .i64 (k : Int)] W fun e w' =>
      e = .returned (.slice a (s.part k).length c) ∧ w' = W.alloc (Obj.cells #[.slice a0 l0 c0, .slice a1 l1 c1, .slice a2 l2 c2, .slice a3 l3 c3] 25)) := fun k hk => by
    obtain ⟨a, c, e, _⟩ := HP.out k
    refine ⟨a, c, e, fun W => ?_⟩
    rw [← e]
    exact part_run a0 a1 a2 a3 l0 l1 l2 l3 c0 c1 c2 c3 k hk W
  have hb0 : Below w.heap.size w (w.alloc (Obj.cells #[.slice a0 l0 c0, .slice a1 l1 c1, .slice a2 l2 c2, .slice a3 l3 c3] 25)) := (Below.refl _ _).alloc (Nat.le_refl _) _
  have HJ0 : Hid (Jr w (w.alloc (Obj.cells #[.slice a0 l0 c0, .slice a1 l1 c1, .slice a2 l2 c2, .slice a3 l3 c3] 25)) (.slice a0 l0 c0) (.slice a1 l1 c1) (.slice a2 l2 c2) (.slice a3 l3 c3) (.slice none 0 0) (.slice none 0 0) [] []) :=
    ⟨Own.nil _ _ _, Own.nil _ _ _, fun j hj => by simp [Value.ownBlock] at hj, hb0, heap_alloc_new w _⟩
  clear hl hb0
  go_enter Try.func17, Try.ntmps17
  go_wp2_with fail
  go_loopw [4] (fun i wr => ∃ k : Nat, k ≤ 4 ∧ i = .int .i64 k ∧ Jr w wr (.slice a0 l0 c0) (.slice a1 l1 c1) (.slice a2 l2 c2) (.slice a3 l3 c3) (.slice none 0 0) (.slice none 0 0) [] []) (fun i _ => 4 - (intOf i).toNat)
  case atStart => exact ⟨0, by omega, rfl, HJ0.out⟩
  case round =>
    obtain ⟨k, hk, rfl, hj⟩ := hrel
    have HJ : Hid (Jr w wr (.slice a0 l0 c0) (.slice a1 l1 c1) (.slice a2 l2 c2) (.slice a3 l3 c3) (.slice none 0 0) (.slice none 0 0) [] []) := hj
    obtain ⟨d0, d1, d2, d3⟩ := hj.cells
    clear hj HJ0
    by_cases hlt : k < 4
    · obtain ⟨ak, ck, -, hpk⟩ := HPT.out k hlt
      have HPK : Hid _ := hpk
      have hlk := HL.out k
      clear hpk
      generalize (s.part k).length = lk at *
      go_wp2_with fail
      refine Calls.mono (HPK.out _) ?_
      rintro e w1 ⟨rfl, hz1⟩
      have HJ1 : Hid (Jr w w1 (.slice a0 l0 c0) (.slice a1 l1 c1) (.slice a2 l2 c2) (.slice a3 l3 c3) (.slice none 0 0) (.slice none 0 0) [] []) := by
        show Jr _ _ _ _ _ _ _ _ _ _
        rw [hz1]; exact HJ.out.later ((Below.refl _ _).alloc (Nat.le_refl _) _)
      clear hz1
      go_wp2_with fail
      go_roundw
      case rel => exact ⟨k + 1, by omega, by go_num, HJ1.out⟩
      case measure => simp [intOf]; omega
    · clear d0 d1 d2 d3
      go_wp2_with (at_builtin; go_must (refine wpList_append_at rfl _ _ _ _ rfl w.heap.size 5 (.int .u8 0) 1 Try.underlying22 Try.infoU8 rfl rfl rfl HJ.out.hd.v (str_src _ Try.underlying9 ⟨#[67, 71, 82, 68]⟩) (by decide) (by decide) HJ.out.below.size ?_))
      intro v1 w1 ho1 hg1 hp1 _
      have HJ1 : Hid (Jr w w1 (.slice a0 l0 c0) (.slice a1 l1 c1) (.slice a2 l2 c2) (.slice a3 l3 c3) v1 (.slice none 0 0) magic []) := HJ.out.appH (ys := magic) ho1 hg1 hp1
      obtain ⟨ha1, hc1, e1⟩ := HJ1.out.shapeH
      have e1' : v1 = .slice ha1 4 hc1 := e1
      clear e1
      subst e1'
      have HJ2 : Hid (Jr w (w1.alloc (Obj.cells #[.int .u8 1, .int .u8 0, .int .u8 4, .int .u8 0] 5)) (.slice a0 l0 c0) (.slice a1 l1 c1) (.slice a2 l2 c2) (.slice a3 l3 c3) (.slice ha1 4 hc1) (.slice none 0 0) magic []) := HJ1.out.later ((Below.refl _ _).alloc (Nat.le_refl _) _)
      have HB2 : Hid (Bs (w1.alloc (Obj.cells #[.int .u8 1, .int .u8 0, .int .u8 4, .int .u8 0] 5)) (.slice (some ⟨w1.heap.size, 0, none⟩) 4 4) [1, 0, 4, 0]) := bs_marked w1 [1, 0, 4, 0] _ _ _ 4 _ rfl rfl rfl (by decide)
      clear ho1 hg1 hp1 HJ HJ1
      go_wp2_with (at_builtin; go_must (refine wpList_append_at rfl _ _ _ _ rfl w.heap.size 5 (.int .u8 0) 1 Try.underlying22 Try.infoU8 rfl rfl rfl HJ2.out.hd.v (HB2.out.src Try.underlying22) (by decide) (by decide) HJ2.out.below.size ?_))
      intro v3 w3 ho3 hg3 hp3 _
      have HJ3 : Hid (Jr w w3 (.slice a0 l0 c0) (.slice a1 l1 c1) (.slice a2 l2 c2) (.slice a3 l3 c3) v3 (.slice none 0 0) (headTo s 0) (bodyTo s 0)) := HJ2.out.appH (ys := [1, 0, 4, 0]) ho3 hg3 (by simpa using hp3)
      clear ho3 hg3 hp3 HJ2 HB2
      go_wp2_with fail
      go_loopw [5, 6, 7] (fun h b i wq => ∃ k : Nat, k ≤ 4 ∧ i = .int .i64 k ∧ Jr w wq (.slice a0 l0 c0) (.slice a1 l1 c1) (.slice a2 l2 c2) (.slice a3 l3 c3) h b (headTo s k) (bodyTo s k)) (fun _ _ i _ => 4 - (intOf i).toNat)
      case atStart => exact ⟨0, by omega, rfl, HJ3.out⟩
      case round =>
        obtain ⟨k, hk, rfl, hj⟩ := hrel
        have HJ : Hid (Jr w wr (.slice a0 l0 c0) (.slice a1 l1 c1) (.slice a2 l2 c2) (.slice a3 l3 c3) u5 u6 (headTo s k) (bodyTo s k)) := hj
        have hbl := HBL.out k
        have HHK : Hid ((headTo s k).length = 8 + 12 * k) := HHL.out k
        clear hj HJ3
        by_cases hlt : k < 4
        · obtain ⟨ak, ck, epk, hpk⟩ := HPT.out k hlt
          have HPK : Hid (∀ W, Calls Try.prog 27 #[.agg #[.slice a0 l0 c0, .slice a1 l1 c1, .slice a2 l2 c2, .slice a3 l3 c3], .int .i64 (k : Int)] W fun e w' => e = .returned (.slice ak (s.part k).length ck) ∧ w' = W.alloc (Obj.cells #[.slice a0 l0 c0, .slice a1 l1 c1, .slice a2 l2 c2, .slice a3 l3 c3] 25)) := hpk
          have HBK : Hid (Bs w (.slice ak (s.part k).length ck) (s.part k)) := by
            have := HP.out k
            rw [epk] at this
            exact this
          have hlk := HL.out k
          have hd4 : decide ((k : Int) < 4) = true := by rw [decide_eq_true_eq]; omega
          clear hpk epk
          go_wp2_with fail
          go_loopw [6] (fun b wq => ∃ xs : List UInt8, Jr w wq (.slice a0 l0 c0) (.slice a1 l1 c1) (.slice a2 l2 c2) (.slice a3 l3 c3) u5 b (headTo s k) xs ∧ pad xs = pad (bodyTo s k) ∧ xs.length + (4 - xs.length % 4) % 4 ≤ 16020) (fun u _ => (4 - lenV u % 4) % 4)
          case atStart => exact ⟨bodyTo s k, HJ.out, rfl, by omega⟩
          case round =>
            obtain ⟨xs, hjx, hpd, hl2⟩ := hrel
            have HA : Hid (Jr w wr (.slice a0 l0 c0) (.slice a1 l1 c1) (.slice a2 l2 c2) (.slice a3 l3 c3) u5 u6 (headTo s k) xs) := hjx
            have HPD : Hid (pad xs = pad (bodyTo s k)) := hpd
            obtain ⟨ab, cb, eb, hb1, hb2⟩ := hjx.shapeB
            unfold maxLen at hb2
            clear hjx hpd HJ
            subst eb
            generalize hl : xs.length = l at *
            by_cases hm : l % 4 = 0
            · have hme : ((l : Int) % 4 != 0) = false := by rw [bne_eq_false_iff_eq]; omega
              have hps : xs = pad (bodyTo s k) := by rw [← HPD.out, pad_same (by omega)]
              have HPL : Hid (56 + l = plc s k) := by
                have := body_length s k
                rw [← hps, hl] at this
                exact this
              have HXS : Hid (xs = pad (bodyTo s k)) := hps
              have HLL : Hid (xs.length = l) := hl
              clear hps hl
              have HPU : Hid (∀ W, Calls Try.prog 30 #[.int .u64 (56 + (l : Int)), .int .i64 4] W fun e w' => ∃ v, e = .returned v ∧ Own w' W.heap.size 5 v (leL (56 + l) 4) ∧ Below W.heap.size W w') := fun W => by
                have := refPut_any (56 + l) 4 (by omega) (by omega) W
                rw [show ((56 + l : Nat) : Int) = 56 + (l : Int) by simp] at this
                exact this
              have HPV : Hid (∀ W, Calls Try.prog 30 #[.int .u64 ((s.part k).length : Int), .int .i64 4] W fun e w' => ∃ v, e = .returned v ∧ Own w' W.heap.size 5 v (leL (s.part k).length 4) ∧ Below W.heap.size W w') := fun W => refPut_any (s.part k).length 4 (by omega) (by omega) W
              go_wp2_with fail
              refine Calls.mono (HPU.out _) ?_
              rintro e w5 ⟨v5, rfl, ho5, hb5⟩
              have HJ5 : Hid (Jr w w5 (.slice a0 l0 c0) (.slice a1 l1 c1) (.slice a2 l2 c2) (.slice a3 l3 c3) u5 (.slice ab l cb) (headTo s k) xs) := HA.out.later hb5
              have HO5 : Hid (Bs w5 v5 (leL (56 + l) 4)) := ho5.bs
              clear ho5 hb5 HA HPU
              go_wp2_with (at_builtin; go_must (refine wpList_append_at rfl _ _ _ _ rfl w.heap.size 5 (.int .u8 0) 1 Try.underlying22 Try.infoU8 rfl rfl rfl HJ5.out.hd.v (HO5.out.src Try.underlying22) (by rw [u8s_length, HHK.out, leL_length]; unfold maxLen; omega) (by rw [u8s_length, HHK.out, leL_length]; omega) HJ5.out.below.size ?_))
              intro v6 w6 ho6 hg6 hp6 _
              have HJ6 : Hid (Jr w w6 (.slice a0 l0 c0) (.slice a1 l1 c1) (.slice a2 l2 c2) (.slice a3 l3 c3) v6 (.slice ab l cb) (headTo s k ++ leL (56 + l) 4) xs) := HJ5.out.appH ho6 hg6 hp6
              obtain ⟨d0, d1, d2, d3⟩ := HJ6.out.cells
              clear ho6 hg6 hp6 HJ5 HO5
              go_wp2_with fail
              refine Calls.mono (HPK.out _) ?_
              rintro e w7 ⟨rfl, hz7⟩
              have HJ7 : Hid (Jr w w7 (.slice a0 l0 c0) (.slice a1 l1 c1) (.slice a2 l2 c2) (.slice a3 l3 c3) v6 (.slice ab l cb) (headTo s k ++ leL (56 + l) 4) xs) := by
                show Jr _ _ _ _ _ _ _ _ _ _
                rw [hz7]; exact HJ6.out.later ((Below.refl _ _).alloc (Nat.le_refl _) _)
              clear hz7 HJ6 d0 d1 d2 d3
              go_wp2_with fail
              refine Calls.mono (HPV.out _) ?_
              rintro e w8 ⟨v8, rfl, ho8, hb8⟩
              have HJ8 : Hid (Jr w w8 (.slice a0 l0 c0) (.slice a1 l1 c1) (.slice a2 l2 c2) (.slice a3 l3 c3) v6 (.slice ab l cb) (headTo s k ++ leL (56 + l) 4) xs) := HJ7.out.later hb8
              have HO8 : Hid (Bs w8 v8 (leL (s.part k).length 4)) := ho8.bs
              clear ho8 hb8 HJ7 HPV
              go_wp2_with (at_builtin; go_must (refine wpList_append_at rfl _ _ _ _ rfl w.heap.size 5 (.int .u8 0) 1 Try.underlying22 Try.infoU8 rfl rfl rfl HJ8.out.hd.v (HO8.out.src Try.underlying22) (by rw [u8s_length, List.length_append, HHK.out, leL_length, leL_length]; unfold maxLen; omega) (by rw [u8s_length, List.length_append, HHK.out, leL_length, leL_length]; omega) HJ8.out.below.size ?_))
              intro v9 w9 ho9 hg9 hp9 _
              have HJ9 : Hid (Jr w w9 (.slice a0 l0 c0) (.slice a1 l1 c1) (.slice a2 l2 c2) (.slice a3 l3 c3) v9 (.slice ab l cb) (headTo s k ++ (leL (56 + l) 4 ++ leL (s.part k).length 4)) xs) := by
                have := HJ8.out.appH ho9 hg9 hp9
                rw [List.append_assoc] at this
                exact this
              clear ho9 hg9 hp9 HJ8 HO8
              have HTG : Hid _ := tag_any k hlt w9
              have HTS : Hid ((tagS k).size = 4) := by rcases four_cases hlt with rfl | rfl | rfl | rfl <;> rfl
              go_wp2_with fail
              refine Calls.mono HTG.out ?_
              rintro e wz ⟨rfl, hz⟩
              subst wz
              clear HTG
              go_wp2_with (at_builtin; go_must (refine wpList_append_at rfl _ _ _ _ rfl w.heap.size 5 (.int .u8 0) 1 Try.underlying22 Try.infoU8 rfl rfl rfl HJ9.out.hd.v (str_src _ Try.underlying9 (tagS k)) (by rw [u8s_length, List.length_append, List.length_append, HHK.out, leL_length, leL_length, HTS.out]; unfold maxLen; omega) (by rw [u8s_length, List.length_append, List.length_append, HHK.out, leL_length, leL_length, HTS.out]; omega) HJ9.out.below.size ?_))
              intro v10 w10 ho10 hg10 hp10 _
              rw [tagS_list] at ho10
              have HJ10 : Hid (Jr w w10 (.slice a0 l0 c0) (.slice a1 l1 c1) (.slice a2 l2 c2) (.slice a3 l3 c3) v10 (.slice ab l cb) ((headTo s k ++ (leL (56 + l) 4 ++ leL (s.part k).length 4)) ++ tagB k) xs) := HJ9.out.appH ho10 hg10 hp10
              obtain ⟨d0, d1, d2, d3⟩ := HJ10.out.cells
              clear ho10 hg10 hp10 HJ9 HTS
              go_wp2_with fail
              refine Calls.mono (HPK.out _) ?_
              rintro e w11 ⟨rfl, hz11⟩
              have HJ11 : Hid (Jr w w11 (.slice a0 l0 c0) (.slice a1 l1 c1) (.slice a2 l2 c2) (.slice a3 l3 c3) v10 (.slice ab l cb) ((headTo s k ++ (leL (56 + l) 4 ++ leL (s.part k).length 4)) ++ tagB k) xs) := by
                show Jr _ _ _ _ _ _ _ _ _ _
                rw [hz11]; exact HJ10.out.later ((Below.refl _ _).alloc (Nat.le_refl _) _)
              have HB11 : Hid (Bs w11 (.slice ak (s.part k).length ck) (s.part k)) := HBK.out.later HJ11.out.below
              clear hz11 HJ10 d0 d1 d2 d3
              go_wp2_with (at_builtin; go_must (refine wpList_append_at rfl _ _ _ _ rfl w.heap.size 5 (.int .u8 0) 1 Try.underlying22 Try.infoU8 rfl rfl rfl HJ11.out.bd.v (HB11.out.src Try.underlying22) (by rw [u8s_length, HLL.out]; unfold maxLen; omega) (by rw [u8s_length, HLL.out]; omega) HJ11.out.below.size ?_))
              intro v12 w12 ho12 hg12 hp12 _
              have HJ12 : Hid (Jr w w12 (.slice a0 l0 c0) (.slice a1 l1 c1) (.slice a2 l2 c2) (.slice a3 l3 c3) v10 v12 (headTo s (k + 1)) (bodyTo s (k + 1))) := by
                have := HJ11.out.appB ho12 hg12 hp12
                rw [HPL.out, HXS.out, List.append_assoc, List.append_assoc] at this
                exact this
              clear ho12 hg12 hp12 HJ11 HB11
              go_wp2_with fail
              go_roundw
              case rel => exact ⟨k + 1, by omega, by go_num, HJ12.out⟩
              case measure => simp [intOf]; omega
            · have hme : ((l : Int) % 4 != 0) = true := by rw [bne_iff_ne]; omega
              have HLL : Hid (xs.length = l) := hl
              have HA2 : Hid (Jr w (wr.alloc (Obj.cells #[.int .u8 0] 5)) (.slice a0 l0 c0) (.slice a1 l1 c1) (.slice a2 l2 c2) (.slice a3 l3 c3) u5 (.slice ab l cb) (headTo s k) xs) := HA.out.later ((Below.refl _ _).alloc (Nat.le_refl _) _)
              clear HA
              go_wp2_with (at_builtin; go_must (refine wpList_append_at rfl _ _ _ _ rfl w.heap.size 5 (.int .u8 0) 1 Try.underlying22 Try.infoU8 rfl rfl rfl HA2.out.bd.v (one_src0 Try.underlying22 _ _ _ _ (by simp) rfl) (by rw [u8s_length, HLL.out]; unfold maxLen; omega) (by rw [u8s_length, HLL.out]; omega) HA2.out.below.size ?_))
              intro v1 w1 ho1 hg1 hp1 _
              have HA3 : Hid (Jr w w1 (.slice a0 l0 c0) (.slice a1 l1 c1) (.slice a2 l2 c2) (.slice a3 l3 c3) u5 v1 (headTo s k) (xs ++ [0])) := HA2.out.appB (ys := [0]) ho1 hg1 (by simpa using hp1)
              have hl3 : (xs ++ [0]).length = l + 1 := by simp [hl]
              have HPD3 : Hid (pad (xs ++ [0]) = pad (bodyTo s k)) := by show _ = _; rw [pad_more (by omega), HPD.out]
              obtain ⟨a1', c1', e1, -⟩ := HA3.out.shapeB
              rw [hl3] at e1
              subst e1
              clear ho1 hg1 hp1
              go_wp2_with fail
              go_roundw
              case rel => exact ⟨xs ++ [0], HA3.out, HPD3.out, by rw [hl3]; omega⟩
              case measure => simp [lenV]; omega
        · have hk4 : k = 4 := by omega
          subst hk4
          obtain ⟨ab, cb, eb, -⟩ := HJ.out.shapeB
          obtain ⟨ah, ch, eh⟩ := HJ.out.shapeH
          rw [HHK.out] at eh
          have HX : Hid (∀ v' w', OwnV w' w.heap.size 5 v' (u8s (headTo s 4) ++ u8s (bodyTo s 4)) → wr.grownBy w' u5.ownBlock → (v'.ownBlock = u5.ownBlock ∨ v'.ownBlock = some wr.heap.size) → Bs w' v' (joinB s) ∧ Below w.heap.size w w') := fun v' w' ho hg hp => by
            have ha := HJ.out.appH ho hg hp
            exact ⟨ha.hd.bs, ha.below⟩
          subst eb eh
          generalize hlb : (bodyTo s 4).length = lb at *
          have HLB : Hid ((bodyTo s 4).length = lb) := hlb
          clear hlb
          go_wp2_with (at_builtin; go_must (refine wpList_append_at rfl _ _ _ _ rfl w.heap.size 5 (.int .u8 0) 1 Try.underlying22 Try.infoU8 rfl rfl rfl HJ.out.hd.v (HJ.out.bd.bs.src Try.underlying22) (by rw [u8s_length, HHK.out, HLB.out]; unfold maxLen; omega) (by rw [u8s_length, HHK.out, HLB.out]; omega) HJ.out.below.size ?_))
          intro v1 w1 ho1 hg1 hp1 _
          obtain ⟨q1, q2⟩ := HX.out v1 w1 ho1 hg1 hp1
          clear ho1 hg1 hp1
          go_wp2_with fail
          go_ret2
          exact ⟨_, rfl, q1, q2⟩

end Go.Proofs.Ytbehcdpjpjklfaa
