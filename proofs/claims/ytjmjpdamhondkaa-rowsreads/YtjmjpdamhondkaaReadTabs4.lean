
/- readTables: what stands behind the marks, read. -/
import Derived.Test.YtjmjpdamhondkaaCounts4
namespace Go.Proofs.Ytjmjpdamhondkaa
set_option linter.unusedVariables false
set_option linter.unusedSimpArgs false
open Go.RowKit Go.Maps

/-- What is behind the two bytes of marks, where no byte lacks. -/
def readT (bs : List UInt8) (m th at0 : Nat) : Option (Tabs × Nat) :=
  match cntTo bs th at0 6 with
  | none => none
  | some p => if bs.length < p.2 + 2 then none else
    match tabsTo bs p.1 m (p.2 + 2) 6 with
    | none => none
    | some q => some (⟨numAt bs p.2 2, q.1⟩, q.2)

/-- Tables whose memory lies from lo on. -/
def In3At (lo : Nat) (w : World) (v : Value) (T : List (List (List Int))) : Prop := ∀ W, w.heap.size ≤ W.heap.size → (∀ k, lo ≤ k → k < w.heap.size → W.heap[k]? = w.heap[k]?) → In3 W v T
theorem In3At.here {lo : Nat} {w : World} {v : Value} {T : List (List (List Int))} (h : In3At lo w v T) : In3 w v T := h w (Nat.le_refl _) fun _ _ _ => rfl
theorem In3At.keep {lo : Nat} {w w' : World} {v : Value} {T : List (List (List Int))} (h : In3At lo w v T) (hs : w.heap.size ≤ w'.heap.size) (hk : ∀ k, lo ≤ k → k < w.heap.size → w'.heap[k]? = w.heap[k]?) : In3At lo w' v T :=
  fun W h1 h2 => h W (Nat.le_trans hs h1) fun k a b => (h2 k a (by omega)).trans (hk k a b)

def TabsPt (lo rb : Nat) (bs : List UInt8) (m th at_ : Nat) (e : Ending) (w' : World) : Prop :=
  (readT bs m th at_ = none ∧ e = .returned (.tuple #[.agg #[.int .i64 0, .slice none 0 0], .int .i64 1])) ∨
  ∃ T a g, readT bs m th at_ = some (T, a) ∧ e = .returned (.tuple #[.agg #[.int .i64 T.entry, .slice (some ⟨g, 0, none⟩) 6 6], .int .i64 0]) ∧ In3At lo w' (.slice (some ⟨g, 0, none⟩) 6 6) T.rows ∧ RdAt w' rb bs a

/-- Two cells of a block are laid anew. -/
theorem res2 {w : World} {r : Nat} {c0 c1 : Value} {t : TypeId} (h : w.heap[r]? = some (Obj.cells #[c0, c1] t (0, 0))) (x y : Value) (W : World) (hW : W = (w.setCell ⟨r, 0, none⟩ x).setCell ⟨r, 1, none⟩ y) :
    Only r w W ∧ W.cell? ⟨r, 0, none⟩ = some x ∧ W.cell? ⟨r, 1, none⟩ = some y ∧ W.heap[r]? = some (Obj.cells #[x, y] t (0, 0)) ∧ W.heap.size = w.heap.size := by
  have e1 : w.setCell ⟨r, 0, none⟩ x = w.setRow r #[x, c1] := by rw [setCell_eq_setRow w r 0 _ _ _ _ h]; simp
  have h1 : (w.setRow r #[x, c1]).heap[r]? = some (Obj.cells #[x, c1] t (0, 0)) := setRow_heap w r _ _ _ _ h
  have e2 : W = (w.setRow r #[x, c1]).setRow r #[x, y] := by rw [hW, e1, setCell_eq_setRow _ r 1 _ _ _ _ h1]; simp
  have h2 : W.heap[r]? = some (Obj.cells #[x, y] t (0, 0)) := by rw [e2]; exact setRow_heap _ r _ _ _ _ h1
  refine ⟨?_, by simp [World.cell?, h2], by simp [World.cell?, h2], h2, by rw [hW]; simp [World.setCell]⟩
  rw [hW]
  exact ((Only.refl _ _).setCell _ _).setCell _ _
theorem melt2 {w : World} {r : Nat} {C : Array Value} {t : TypeId} (h : w.heap[r]? = some (Obj.cells C t (0, 0))) (o : Nat) : w.frozen? ⟨r, o, none⟩ = false := by simp [World.frozen?, h]

theorem and_one (x : Nat) (hx : x < 18446744073709551616) : bits .and .u64 (x : Int) 1 = ((x % 2 : Nat) : Int) := by
  have h : x &&& 1 < 2 ^ 64 := Nat.lt_of_le_of_lt Nat.and_le_left (by omega)
  show IntKind.u64.wrap ((BitVec.ofInt 64 (x : Int) &&& BitVec.ofInt 64 ((1 : Nat) : Int)).toNat : Int) = _
  rw [BitVec.toNat_and, ofInt_u64 x (by omega), ofInt_u64 1 (by omega), IntKind.wrap_u64, Nat.and_one_is_mod]
  omega

theorem and_bit (th i : Nat) (hth : th ≤ 63) : bits .and .u64 ((th : Int) / 2 ^ i) 1 = ((th / 2 ^ i % 2 : Nat) : Int) := by
  have hq : th / 2 ^ i < 18446744073709551616 := Nat.lt_of_le_of_lt (Nat.div_le_self _ _) (by omega)
  rw [← and_one _ hq]
  congr 1

theorem Try.infoRow : (Try.prog.info? 62).map (fun i => (i.zero, i.size, i.bytes)) = some (some (.slice none 0 0), 1, 24) := by kernel_rfl

/-- A count is laid into the array. -/
theorem cu_set {w : World} {g : Nat} {cs : List Nat} {t : TypeId} (h : w.heap[g]? = some (Obj.cells (cuL cs).toArray t (0, 0))) (hl : cs.length < 6) (n : Nat) : (w.setCell ⟨g, cs.length, none⟩ (.int .u64 (n : Int))).heap[g]? = some (Obj.cells (cuL (cs ++ [n])).toArray t (0, 0)) := by
  rw [setCell_eq_setRow w g _ _ _ _ _ h, setRow_heap w g _ _ _ _ h]
  simp [cuL_set hl]
theorem cu_cell {w : World} {g : Nat} {cs : List Nat} {t : TypeId} (h : w.heap[g]? = some (Obj.cells (cuL cs).toArray t (0, 0))) (hl : cs.length ≤ 6) (i : Nat) (hi : i < 6) : ∃ x, w.cell? ⟨g, i, none⟩ = some x := by
  have := cuL_length hl
  exact ⟨(cuL cs)[i], by simp [World.cell?, h, List.getElem?_eq_getElem (show i < (cuL cs).length by omega)]⟩

set_option maxHeartbeats 2000000 in
theorem readTables_any {w : World} {rb : Nat} {bs : List UInt8} {at_ : Nat} (m th : Nat) (hm : m ≤ 3) (hth : th ≤ 63) (h : RdAt w rb bs at_) :
    Calls Try.prog 25 #[.pointer (some ⟨rb, 0, none⟩), .int .u64 (m : Int), .int .u64 (th : Int)] w fun e w' => TabsPt w.heap.size rb bs m th at_ e w' ∧ Only rb w w' := by
  have H : Hid (RdAt w rb bs at_) := h
  have hrb := h.lt
  clear h
  go_enter Try.func25, Try.ntmps25
  go_wp2_with fail
  go_loopw [19] (fun x wr => ∃ (i a : Nat) (cs : List Nat), i ≤ 6 ∧ x = .int .i64 i ∧ cntTo bs th at_ i = some (cs, a) ∧ wr.heap[w.heap.size]? = some (Obj.cells #[.int .i64 0, .slice none 0 0] 26 (0, 0)) ∧ wr.heap[w.heap.size + 1]? = some (Obj.cells (cuL cs).toArray 77 (0, 0)) ∧ RdAt wr rb bs a ∧ Only rb w wr) (fun x _ => 6 - (intOf x).toNat)
  case atStart =>
    have hb : Below w.heap.size w ((w.alloc (Obj.cells #[.int .i64 0, .slice none 0 0] 26)).alloc (Obj.cells #[.int .u64 0, .int .u64 0, .int .u64 0, .int .u64 0, .int .u64 0, .int .u64 0] 77)) := ((Below.refl _ _).alloc (Nat.le_refl _) _).alloc (by simp) _
    refine ⟨0, at_, [], by omega, rfl, rfl, ?_, ?_, H.out.below hb hrb, Only.of_below hb⟩
    · exact (heap_alloc_old _ _ (by simp)).trans (heap_alloc_new w _)
    · have := heap_alloc_new (w.alloc (Obj.cells #[.int .i64 0, .slice none 0 0] 26)) (Obj.cells #[.int .u64 0, .int .u64 0, .int .u64 0, .int .u64 0, .int .u64 0, .int .u64 0] 77)
      rw [World.size_alloc] at this
      exact this
  case round =>
    obtain ⟨i, a, cs, hi, rfl, hct, hre, hcu, hra, hon⟩ := hrel
    have HCT : Hid (cntTo bs th at_ i = some (cs, a)) := hct
    have HCL : Hid (cs.length = i) := (cnt_was hct).1
    have HRE : Hid (wr.heap[w.heap.size]? = some (Obj.cells #[.int .i64 0, .slice none 0 0] 26 (0, 0))) := hre
    have HCU : Hid (wr.heap[w.heap.size + 1]? = some (Obj.cells (cuL cs).toArray 77 (0, 0))) := hcu
    have HRA : Hid (RdAt wr rb bs a) := hra
    have HON : Hid (Only rb w wr) := hon
    clear hct hre hcu hra hon
    by_cases hlt : i < 6
    · have hd6 : decide ((i : Int) < 6) = true := by rw [decide_eq_true_eq]; omega
      have hand := and_bit th i hth
      by_cases hbit : th / 2 ^ i % 2 = 1
      · rw [hbit] at hand
        by_cases hsh : bs.length < a + 2
        · have HE : Hid (readT bs m th at_ = none) := by
            show _ = _
            unfold readT
            rw [cntTo_short HCT.out hlt hbit hsh]
          have HNUM : Hid _ := num_s HRA.out (show 2 = 1 ∨ 2 = 2 ∨ 2 = 4 by omega) hsh
          clear hsh hbit
          go_wp2_with fail
          refine Calls.mono HNUM.out ?_
          rintro e w3 ⟨rfl, ho3⟩
          have HN3 : Hid (Only rb w w3) := HON.out.trans ho3
          have hre3 := (ho3.block _ (Array.getElem?_eq_some_iff.1 HRE.out).1 (by omega)).trans HRE.out
          obtain ⟨d0, d1⟩ := box2 hre3
          have z0 := melt2 hre3 0
          have z1 := melt2 hre3 1
          have HR3 : Hid (w3.heap[w.heap.size]? = some (Obj.cells #[.int .i64 0, .slice none 0 0] 26 (0, 0))) := hre3
          clear ho3 hre3 HNUM
          go_wp2_with fail
          obtain ⟨q0, q1, q2, -, -⟩ := res2 HR3.out (.int .i64 0) (.slice none 0 0) _ rfl
          exact bodyPost_ret (v := .tuple #[.agg #[.int .i64 0, .slice none 0 0], .int .i64 1]) (by simp [results, Try.results25, go_sem, q1, q2]) rfl ⟨.inl ⟨HE.out, rfl⟩, HN3.out.low (q0.below (Nat.le_refl _) HN3.out.size)⟩
        · have HE : Hid (cntTo bs th at_ (i + 1) = some (cs ++ [numAt bs a 2], a + 2)) := cntTo_next HCT.out hbit hsh
          have HNUM : Hid _ := num_w HRA.out (show 2 = 1 ∨ 2 = 2 ∨ 2 = 4 by omega) hsh
          clear hsh hbit
          generalize numAt bs a 2 = n at *
          go_wp2_with fail
          refine Calls.mono HNUM.out ?_
          rintro e w3 ⟨rfl, hr3, ho3⟩
          have HN3 : Hid (Only rb w w3) := HON.out.trans ho3
          have HRE3 : Hid (w3.heap[w.heap.size]? = some (Obj.cells #[.int .i64 0, .slice none 0 0] 26 (0, 0))) := (ho3.block _ (Array.getElem?_eq_some_iff.1 HRE.out).1 (by omega)).trans HRE.out
          have HCU3 : Hid (w3.heap[w.heap.size + 1]? = some (Obj.cells (cuL cs).toArray 77 (0, 0))) := (ho3.block _ (Array.getElem?_eq_some_iff.1 HCU.out).1 (by omega)).trans HCU.out
          have HR3 : Hid (RdAt w3 rb bs (a + 2)) := hr3
          have hcl := HCL.out
          obtain ⟨x, hx⟩ := cu_cell HCU3.out (by omega) i hlt
          have hz := melt2 HCU3.out i
          have hcs := cu_set HCU3.out (by omega) n
          rw [hcl] at hcs
          have HCS : Hid _ := hcs
          clear ho3 hr3 hcs hcl HNUM
          go_wp2_with fail
          have hb4 : Below (w.heap.size + 1) w3 (w3.setCell ⟨w.heap.size + 1, i, none⟩ (.int .u64 (n : Int))) := ⟨rfl, rfl, rfl, by simp [World.setCell], fun k hk => Below.heap_setCell _ _ _ _ (by show k ≠ w.heap.size + 1; omega)⟩
          go_roundw
          case rel => exact ⟨i + 1, _, _, by omega, by go_num, HE.out, (hb4.block _ (by omega)).trans HRE3.out, HCS.out, HR3.out.below hb4 (by omega), HN3.out.low (hb4.mono (by omega))⟩
          case measure => simp [intOf]; omega
      · have HE : Hid (cntTo bs th at_ (i + 1) = some (cs ++ [0], a)) := cntTo_skip HCT.out hbit
        have hb0 : th / 2 ^ i % 2 = 0 := by omega
        rw [hb0] at hand
        have HCS : Hid (wr.heap[w.heap.size + 1]? = some (Obj.cells (cuL (cs ++ [0])).toArray 77 (0, 0))) := by
          rw [cuL_skip (by have := HCL.out; omega)]; exact HCU.out
        clear hb0 hbit
        go_wp2_with fail
        go_roundw
        case rel => exact ⟨i + 1, _, _, by omega, by go_num, HE.out, HRE.out, HCS.out, HRA.out, HON.out⟩
        case measure => simp [intOf]; omega
    · have hi6 : i = 6 := by omega
      subst hi6
      obtain ⟨n0, n1, n2, n3, n4, n5, hcs⟩ := six_list HCL.out
      have HRD : Hid (readT bs m th at_ = if bs.length < a + 2 then none else match tabsTo bs cs m (a + 2) 6 with
        | none => none
        | some q => some (⟨numAt bs a 2, q.1⟩, q.2)) := by
        show _ = _
        unfold readT
        rw [HCT.out]
      have HCSE : Hid (cs = [n0, n1, n2, n3, n4, n5]) := hcs
      have HCU1 : Hid (wr.heap[w.heap.size + 1]? = some (Obj.cells #[.int .u64 (n0 : Int), .int .u64 (n1 : Int), .int .u64 (n2 : Int), .int .u64 (n3 : Int), .int .u64 (n4 : Int), .int .u64 (n5 : Int)] 77 (0, 0))) := by
        have := HCU.out
        rw [hcs] at this
        simp only [cuL] at this
        exact this
      have hcl := (cnt_was HCT.out).2.2.1
      have HC16 : Hid (∀ c ∈ cs, c < 65536) := hcl
      clear hcs HCT HCL HCU hcl
      by_cases hsh : bs.length < a + 2
      · have HE : Hid (readT bs m th at_ = none) := by
          show _ = _
          rw [HRD.out, if_pos hsh]
        have HNUM : Hid _ := num_s HRA.out (show 2 = 1 ∨ 2 = 2 ∨ 2 = 4 by omega) hsh
        clear hsh
        go_wp2_with fail
        refine Calls.mono HNUM.out ?_
        rintro e w3 ⟨rfl, ho3⟩
        have HN3 : Hid (Only rb w w3) := HON.out.trans ho3
        have hre3 := (ho3.block _ (Array.getElem?_eq_some_iff.1 HRE.out).1 (by omega)).trans HRE.out
        obtain ⟨d0, d1⟩ := box2 hre3
        have z0 := melt2 hre3 0
        have z1 := melt2 hre3 1
        have HR3 : Hid (w3.heap[w.heap.size]? = some (Obj.cells #[.int .i64 0, .slice none 0 0] 26 (0, 0))) := hre3
        clear ho3 hre3 HNUM
        go_wp2_with fail
        obtain ⟨q0, q1, q2, -, -⟩ := res2 HR3.out (.int .i64 0) (.slice none 0 0) _ rfl
        exact bodyPost_ret (v := .tuple #[.agg #[.int .i64 0, .slice none 0 0], .int .i64 1]) (by simp [results, Try.results25, go_sem, q1, q2]) rfl ⟨.inl ⟨HE.out, rfl⟩, HN3.out.low (q0.below (Nat.le_refl _) HN3.out.size)⟩
      · rw [if_neg hsh] at HRD
        have HNUM : Hid _ := num_w HRA.out (show 2 = 1 ∨ 2 = 2 ∨ 2 = 4 by omega) hsh
        clear hsh
        have hel := num_lt bs a 2
        generalize numAt bs a 2 = en at *
        go_wp2_with fail
        refine Calls.mono HNUM.out ?_
        rintro e w3 ⟨rfl, hr3, ho3⟩
        have HN3 : Hid (Only rb w w3) := HON.out.trans ho3
        have HRE3 : Hid (w3.heap[w.heap.size]? = some (Obj.cells #[.int .i64 0, .slice none 0 0] 26 (0, 0))) := (ho3.block _ (Array.getElem?_eq_some_iff.1 HRE.out).1 (by omega)).trans HRE.out
        have HCU3 : Hid (w3.heap[w.heap.size + 1]? = some (Obj.cells #[.int .u64 (n0 : Int), .int .u64 (n1 : Int), .int .u64 (n2 : Int), .int .u64 (n3 : Int), .int .u64 (n4 : Int), .int .u64 (n5 : Int)] 77 (0, 0))) := (ho3.block _ (Array.getElem?_eq_some_iff.1 HCU1.out).1 (by omega)).trans HCU1.out
        have HR3 : Hid (RdAt w3 rb bs (a + 2)) := hr3
        clear ho3 hr3 HNUM HRE HCU1 HRA HON
        have hmk := run_make_six w3
        have hs3 := HN3.out.size
        have hcs3 := (Array.getElem?_eq_some_iff.1 HCU3.out).1
        obtain ⟨w5, hw5⟩ : ∃ w5, w5 = (w3.alloc (Obj.cells #[.slice none 0 0, .slice none 0 0, .slice none 0 0, .slice none 0 0, .slice none 0 0, .slice none 0 0] 65)).alloc (Obj.cells #[.int .i64 (en : Int), .slice (some ⟨w3.heap.size, 0, none⟩) 6 6] 26) := ⟨_, rfl⟩
        have hb5 : Below w3.heap.size w3 w5 := by rw [hw5]; exact ((Below.refl _ _).alloc (Nat.le_refl _) _).alloc (by simp) _
        have hsz5 : w5.heap.size = w3.heap.size + 2 := by rw [hw5]; simp
        have HS5 : Hid (w5.heap[w3.heap.size + 1]? = some (Obj.cells #[.int .i64 (en : Int), .slice (some ⟨w3.heap.size, 0, none⟩) 6 6] 26 (0, 0))) := by
          have := heap_alloc_new (w3.alloc (Obj.cells #[.slice none 0 0, .slice none 0 0, .slice none 0 0, .slice none 0 0, .slice none 0 0, .slice none 0 0] 65)) (Obj.cells #[.int .i64 (en : Int), .slice (some ⟨w3.heap.size, 0, none⟩) 6 6] 26)
          rw [World.size_alloc] at this
          rw [hw5]; exact this
        have HRT5 : Hid (Rt w5 w3.heap.size (w3.heap.size + 2) [.slice none 0 0, .slice none 0 0, .slice none 0 0, .slice none 0 0, .slice none 0 0, .slice none 0 0] []) := by
          have h1 := Rt.start w3 w3.heap.size rfl
          have h2 := h1.keep (w' := w5) (by rw [hw5]; simp) (fun k hk hlt => by rw [hw5]; exact heap_alloc_old _ _ hlt)
          exact h2.raise (by omega) (by omega)
        have HR5 : Hid (RdAt w5 rb bs (a + 2)) := HR3.out.only hb5
        have HN5 : Hid (Only rb w w5) := HN3.out.low (hb5.mono hs3)
        have HRE5 : Hid (w5.heap[w.heap.size]? = some (Obj.cells #[.int .i64 0, .slice none 0 0] 26 (0, 0))) := (hb5.block _ (by omega)).trans HRE3.out
        have hcu5 := (hb5.block _ hcs3).trans HCU3.out
        have k0 : w5.cell? ⟨w.heap.size + 1, 0, none⟩ = some (.int .u64 (n0 : Int)) := by simp [World.cell?, hcu5]
        have k1 : w5.cell? ⟨w.heap.size + 1, 1, none⟩ = some (.int .u64 (n1 : Int)) := by simp [World.cell?, hcu5]
        have k2 : w5.cell? ⟨w.heap.size + 1, 2, none⟩ = some (.int .u64 (n2 : Int)) := by simp [World.cell?, hcu5]
        have k3 : w5.cell? ⟨w.heap.size + 1, 3, none⟩ = some (.int .u64 (n3 : Int)) := by simp [World.cell?, hcu5]
        have k4 : w5.cell? ⟨w.heap.size + 1, 4, none⟩ = some (.int .u64 (n4 : Int)) := by simp [World.cell?, hcu5]
        have k5 : w5.cell? ⟨w.heap.size + 1, 5, none⟩ = some (.int .u64 (n5 : Int)) := by simp [World.cell?, hcu5]
        rw [hw5] at k0 k1 k2 k3 k4 k5
        clear hcu5 hb5 HR3 HN3 HRE3 HCU3
        have HW5 : Hid _ := hw5
        clear hw5
        go_wp2_with fail
        rw [← HW5.out]
        clear hmk k0 k1 k2 k3 k4 k5 HW5
        go_loopw [54] (fun x wr => ∃ (t aa : Nat) (T : List (List (List Int))) (vs : List Value), t ≤ 6 ∧ x = .int .i64 t ∧ tabsTo bs cs m (a + 2) t = some (T, aa) ∧ Rt wr w3.heap.size (w3.heap.size + 2) vs T ∧ RdAt wr rb bs aa ∧ Fr rb w3.heap.size (w3.heap.size + 2) w5 wr) (fun x _ => 6 - (intOf x).toNat)
        case atStart => exact ⟨0, a + 2, [], _, by omega, rfl, rfl, HRT5.out, HR5.out, Fr.refl _ _ _ _⟩
        case round =>
          obtain ⟨t, aa, T, vs, ht, rfl, htt, hrt, hra, hfr⟩ := hrel
          have HTT : Hid (tabsTo bs cs m (a + 2) t = some (T, aa)) := htt
          have HTL : Hid (T.length = t) := tabsTo_len htt
          have HRT : Hid (Rt wr w3.heap.size (w3.heap.size + 2) vs T) := hrt
          have HRA : Hid (RdAt wr rb bs aa) := hra
          have HFR : Hid (Fr rb w3.heap.size (w3.heap.size + 2) w5 wr) := hfr
          clear htt hrt hra hfr
          by_cases hlt : t < 6
          · have hd6 : decide ((t : Int) < 6) = true := by rw [decide_eq_true_eq]; omega
            have hix := run_index6 n0 n1 n2 n3 n4 n5 t hlt
            rw [← HCSE.out] at hix
            have hn16 : cs.getD t 0 < 65536 := by
              by_cases hi : t < cs.length
              · simp only [List.getD, List.getElem?_eq_getElem hi, Option.getD_some]
                exact HC16.out _ (List.getElem_mem _)
              · simp [List.getD, List.getElem?_eq_none (by omega : cs.length ≤ t)]
            obtain ⟨n, hn⟩ : ∃ n, n = cs.getD t 0 := ⟨_, rfl⟩
            have HNE : Hid (n = cs.getD t 0) := hn
            rw [← hn] at hix hn16
            have HCR : Hid (Cur wr w3.heap.size (w3.heap.size + 2) wr.heap.size vs T (.slice none 0 0) [] []) := HRT.out.cur (by have := HTL.out; omega)
            obtain ⟨wo, rfl⟩ : ∃ wo, wo = wr := ⟨_, rfl⟩
            clear hn HRT
            go_wp2_with fail
            go_loopw [59] (fun x wr => ∃ (k ab : Nat) (rows : List (List Int)) (vs : List Value) (v : Value) (us : List Value), k ≤ n ∧ x = .int .u64 k ∧ rowsTo bs t m aa k = some (rows, ab) ∧ Cur wr w3.heap.size (w3.heap.size + 2) wo.heap.size vs T v us rows ∧ RdAt wr rb bs ab ∧ Fr rb w3.heap.size (w3.heap.size + 2) w5 wr) (fun x _ => n - (intOf x).toNat)
            case atStart => exact ⟨0, aa, [], _, _, _, by omega, rfl, rfl, HCR.out, HRA.out, HFR.out⟩
            case round =>
              obtain ⟨k, ab, rows, vs, v, us, hk, rfl, hrw, hcr, hra, hfr⟩ := hrel
              have HRW : Hid (rowsTo bs t m aa k = some (rows, ab)) := hrw
              have HC : Hid (Cur wr w3.heap.size (w3.heap.size + 2) wo.heap.size vs T v us rows) := hcr
              have HRB : Hid (RdAt wr rb bs ab) := hra
              have HFS : Hid (Fr rb w3.heap.size (w3.heap.size + 2) w5 wr) := hfr
              clear hrw hcr hra hfr HCR
              by_cases hkn : k < n
              · have hdk : decide ((k : Int) < (n : Int)) = true := by rw [decide_eq_true_eq]; omega
                go_wp2_with fail
                refine (readRow_any t m hm HRB.out).mono ?_
                rintro e w6 ⟨hpt, ho6⟩
                have htop := HC.out.top
                have hlohi := HC.out.lohi
                have HFS6 : Hid (Fr rb w3.heap.size (w3.heap.size + 2) w5 w6) := HFS.out.trans (Fr.only ho6 (by omega))
                have HC6 : Hid (Cur w6 w3.heap.size (w3.heap.size + 2) wo.heap.size vs T v us rows) := HC.out.keep ho6.size fun j hj hlt => ho6.block j hlt (by omega)
                have hs6 := ho6.size
                clear ho6
                rcases hpt with ⟨hno, rfl⟩ | ⟨l, ac, x, c, hyes, rfl, hou, hrd⟩
                · have HE : Hid (readT bs m th at_ = none) := by
                    show _ = _
                    have h1 := rowsTo_short HRW.out hkn hno
                    rw [HNE.out] at h1
                    rw [HRD.out, tabsTo_short HTT.out hlt h1]
                  have hre6 := (HFS6.out.block _ (show w.heap.size < w3.heap.size + 2 by omega) (by omega) (by omega)).trans HRE5.out
                  obtain ⟨d0, d1⟩ := box2 hre6
                  have z0 := melt2 hre6 0
                  have z1 := melt2 hre6 1
                  have HR6 : Hid (w6.heap[w.heap.size]? = some (Obj.cells #[.int .i64 0, .slice none 0 0] 26 (0, 0))) := hre6
                  have HN6 : Hid (Only rb w w6) := Fr.onlyR HN5.out HFS6.out (by omega) (by omega)
                  clear hno hre6
                  go_wp2_with fail
                  obtain ⟨q0, q1, q2, -, -⟩ := res2 HR6.out (.int .i64 0) (.slice none 0 0) _ rfl
                  exact bodyPost_ret (v := .tuple #[.agg #[.int .i64 0, .slice none 0 0], .int .i64 1]) (by simp [results, Try.results25, go_sem, q1, q2]) rfl ⟨.inl ⟨HE.out, rfl⟩, HN6.out.low (q0.below (Nat.le_refl _) HN6.out.size)⟩
                · have HRW2 : Hid (rowsTo bs t m aa (k + 1) = some (rows ++ [l], ac)) := rowsTo_next HRW.out hyes
                  have HOU : Hid (OwnV w6 wo.heap.size 3 (.slice x (colsR t) c) (i64s l)) := hou.low htop
                  have HRB6 : Hid (RdAt w6 rb bs ac) := hrd
                  clear hyes hou hrd
                  have hkl : us.length = k := by rw [HC6.out.tb.len]; exact (rows_was HRW.out).1
                  obtain ⟨va, vc, hve, -⟩ := HC6.out.tb.own.sl
                  have hs6' := (HFS6.out.block _ (show w3.heap.size + 1 < w3.heap.size + 2 by omega) (by omega) (by omega)).trans HS5.out
                  obtain ⟨d0, d1⟩ := box2 hs6'
                  have htl := HTL.out
                  have hgc : w6.cell? ⟨w3.heap.size, t, none⟩ = some v := by
                    have h1 := HC6.out.cur
                    rw [htl] at h1
                    simp [World.cell?, HC6.out.gb, h1]
                  have HCD : Hid (∀ W, Below w6.heap.size w6 W → Cur W w3.heap.size (w3.heap.size + 2) wo.heap.size vs T v us rows) := fun W hW => HC6.out.keep hW.size fun j _ hlt => hW.block j hlt
                  have HOD : Hid (∀ W, Below w6.heap.size w6 W → OwnV W wo.heap.size 3 (.slice x (colsR t) c) (i64s l)) := fun W hW => HOU.out.later hW
                  rw [hkl] at hve
                  have HKL : Hid (us.length = k) := hkl
                  have HTL2 : Hid (T.length = t) := htl
                  subst hve
                  clear hs6' htl hkl HC6 HOU
                  generalize colsR t = cols at *
                  have hti : (t : Int) < 6 := by omega
                  have hbd : Below w6.heap.size w6 (w6.alloc (Obj.cells #[.slice x cols c] 62)).drew := Below.drewN ((Below.refl _ _).alloc (Nat.le_refl _) _) 1
                  have HSRC : Hid (Src Try.prog 1 65 (.slice (some ⟨w6.heap.size, 0, none⟩) 1 1) 1 [.slice x cols c] (w6.alloc (Obj.cells #[.slice x cols c] 62)).drew) := one_src0 Try.underlying65 w6.drew (.slice x cols c) 62 w6.heap.size rfl rfl
                  have HC7 : Hid (Cur (w6.alloc (Obj.cells #[.slice x cols c] 62)).drew w3.heap.size (w3.heap.size + 2) wo.heap.size vs T (.slice va k vc) us rows) := HCD.out _ hbd
                  have HO7 : Hid (OwnV (w6.alloc (Obj.cells #[.slice x cols c] 62)).drew wo.heap.size 3 (.slice x cols c) (i64s l)) := HOD.out _ hbd
                  have HRB7 : Hid (RdAt (w6.alloc (Obj.cells #[.slice x cols c] 62)).drew rb bs ac) := HRB6.out.only hbd
                  have HFS7 : Hid (Fr rb w3.heap.size (w3.heap.size + 2) w5 (w6.alloc (Obj.cells #[.slice x cols c] 62)).drew) := HFS6.out.trans (Fr.low hbd (by omega))
                  have htop6 := HC7.out.top
                  have HS7 : Hid (∀ W v', (w6.alloc (Obj.cells #[.slice x cols c] 62)).drew.grownBy W (Value.slice va k vc).ownBlock → OwnV W wo.heap.size 62 v' (us ++ [.slice x cols c]) → Cur (W.setCell ⟨w3.heap.size, t, none⟩ v') w3.heap.size (w3.heap.size + 2) wo.heap.size (vs.set t v') T v' (us ++ [.slice x cols c]) (rows ++ [l]) ∧ W.heap[w3.heap.size]? = some (.cells vs.toArray 65 (0, 0)) ∧ W.cell? ⟨w3.heap.size, t, none⟩ = some (.slice va k vc) ∧ RdAt (W.setCell ⟨w3.heap.size, t, none⟩ v') rb bs ac ∧ Fr rb w3.heap.size (w3.heap.size + 2) w5 (W.setCell ⟨w3.heap.size, t, none⟩ v') ∧ W.cell? ⟨w3.heap.size + 1, 1, none⟩ = some (.slice (some ⟨w3.heap.size, 0, none⟩) 6 6)) := fun W v' hg ho => by
                    obtain ⟨c1, c2⟩ := HC7.out.app HO7.out hg ho
                    rw [HTL2.out] at c1
                    have hlow : Below wo.heap.size (w6.alloc (Obj.cells #[.slice x cols c] 62)).drew W := (Below.refl _ _).grown hg htop6 fun j hj => (HC7.out.tb.own.block j hj).1
                    have hst : Below w3.heap.size W (W.setCell ⟨w3.heap.size, t, none⟩ v') := ⟨rfl, rfl, rfl, by simp [World.setCell], fun j hj => Below.heap_setCell _ _ _ _ (by show j ≠ w3.heap.size; omega)⟩
                    refine ⟨c1, c2, ?_, (HRB7.out.below hlow (by omega)).below hst (by omega), (HFS7.out.trans (Fr.low hlow (by omega))).trans (Fr.set _ _ _ _ _ _), ?_⟩
                    · have h1 := HC7.out.cur
                      rw [HTL2.out] at h1
                      simp [World.cell?, c2, h1]
                    · rw [← d1]
                      exact World.cell?_of_block ((hlow.block _ (by show w3.heap.size + 1 < _; omega)).trans (hbd.block _ (by show w3.heap.size + 1 < _; omega)))
                  have hba : Below w6.heap.size w6 (w6.alloc (Obj.cells #[.slice x cols c] 62)) := (Below.refl _ _).alloc (Nat.le_refl _) _
                  have hgc2 := cell_later hgc hba
                  have d12 := cell_later d1 hba
                  clear hbd hba HCD HOD
                  go_wp2_with fail
                  go_region_law (refine step_append_at rfl (.tmp 79) (.tmp 81) 65 65 rfl wo.heap.size 62 (.slice none 0 0) 24 Try.underlying65 Try.infoRow rfl (by simp [Act.eval, Act.put]) (by simp [Act.eval, Act.put]) HC7.out.tb.own HSRC.out (by rw [HKL.out]; unfold maxLen; omega) (by rw [HKL.out]; omega) htop6 ?_; intro v8 w8 ho8 hg8; obtain ⟨c1, c2, c3, c4, c5, c6⟩ := HS7.out w8 v8 hg8 ho8; have z8 := melt2 c2 t; have HX8 : Hid (Cur (w8.setCell ⟨w3.heap.size, t, none⟩ v8) w3.heap.size (w3.heap.size + 2) wo.heap.size (vs.set t v8) T v8 (us ++ [.slice x cols c]) (rows ++ [l]) ∧ RdAt (w8.setCell ⟨w3.heap.size, t, none⟩ v8) rb bs ac ∧ Fr rb w3.heap.size (w3.heap.size + 2) w5 (w8.setCell ⟨w3.heap.size, t, none⟩ v8)) := ⟨c1, c4, c5⟩; obtain ⟨y8, b8, e8, -⟩ := ho8.sl; have hl8 : (us ++ [Value.slice x cols c]).length = k + 1 := (by rw [List.length_append, HKL.out]; rfl); rw [hl8] at e8; subst e8; clear c1 c2 c4 c5 ho8 hg8 hl8)
                  all_goals
                    go_wp2_with fail
                    go_roundw
                    case rel => exact ⟨k + 1, _, _, _, _, _, by omega, by go_num, HRW2.out, HX8.out.1, HX8.out.2.1, HX8.out.2.2⟩
                    case measure => simp [intOf]; omega
              · have hkn' : k = n := by omega
                subst hkn'
                have HTT2 : Hid (tabsTo bs cs m (a + 2) (t + 1) = some (T ++ [rows], ab)) := tabsTo_next HTT.out (by rw [← HNE.out]; exact HRW.out)
                have hdk : decide ((k : Int) < (k : Int)) = false := by rw [decide_eq_false_iff_not]; omega
                go_wp2_with fail
                go_roundw
                case rel => exact ⟨t + 1, _, _, _, by omega, by go_num, HTT2.out, HC.out.rt, HRB.out, HFS.out⟩
                case measure => simp [intOf]; omega
          · have ht6 : t = 6 := by omega
            subst ht6
            have HE : Hid (readT bs m th at_ = some (⟨(en : Int), T⟩, aa)) := by
              show _ = _
              rw [HRD.out, HTT.out]
            have hs6 := (HFR.out.block _ (show w3.heap.size + 1 < w3.heap.size + 2 by omega) (by omega) (by omega)).trans HS5.out
            obtain ⟨d0, d1⟩ := box2 hs6
            have hre6 := (HFR.out.block _ (show w.heap.size < w3.heap.size + 2 by omega) (by omega) (by omega)).trans HRE5.out
            obtain ⟨f0, f1⟩ := box2 hre6
            have z0 := melt2 hre6 0
            have z1 := melt2 hre6 1
            have HR6 : Hid (wr.heap[w.heap.size]? = some (Obj.cells #[.int .i64 0, .slice none 0 0] 26 (0, 0))) := hre6
            have HN6 : Hid (Only rb w wr) := Fr.onlyR HN5.out HFR.out (by omega) (by omega)
            clear hs6 hre6
            go_wp2_with fail
            obtain ⟨q0, q1, q2, -, q4⟩ := res2 HR6.out (.int .i64 (en : Int)) (.slice (some ⟨w3.heap.size, 0, none⟩) 6 6) _ rfl
            have hrt := HRT.out.keep (Nat.le_of_eq q4.symm) fun k hk hlt => q0.block k hlt (by omega)
            have hq : Below w.heap.size wr ((wr.setCell ⟨w.heap.size, 0, none⟩ (.int .i64 (en : Int))).setCell ⟨w.heap.size, 1, none⟩ (.slice (some ⟨w3.heap.size, 0, none⟩) 6 6)) := q0.below (Nat.le_refl _) HN6.out.size
            exact bodyPost_ret (v := .tuple #[.agg #[.int .i64 (en : Int), .slice (some ⟨w3.heap.size, 0, none⟩) 6 6], .int .i64 0]) (by simp [results, Try.results25, go_sem, q1, q2]) rfl ⟨.inr ⟨_, _, _, HE.out, rfl, fun W h1 h2 => (hrt.keep h1 fun k hk hlt => h2 k (by omega) hlt).fin HTL.out, HRA.out.below hq hrb⟩, HN6.out.low hq⟩

end Go.Proofs.Ytjmjpdamhondkaa
