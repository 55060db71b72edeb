
/- getLast, getType, getHead, getCount; Get and GetField. -/
import Derived.Test.YtcjoidhbhffcgaaReadType5
namespace Go.Proofs.Ytcjoidhbhffcgaa
set_option linter.unusedVariables false
set_option linter.unusedSimpArgs false
open Go.RowKit

/-- A type that may stand there. -/
def allowR (p : Nat) (g : Ty × Nat × Nat) : Ty × Nat × Nat := if g.2.2 ≠ 0 then badR g.2.2 else if mayT p g.1 = true then g else badR 10
/-- A type that may stand there, and no more. -/
def lastR (p : Nat) (bs : List UInt8) (g : Ty × Nat × Nat) : Ty × Nat × Nat := if g.2.2 ≠ 0 then badR g.2.2 else if g.2.1 < bs.length then badR 2 else if mayT p g.1 = true then g else badR 10

theorem TyAt.drewN {w : World} {g : Nat} {k i d : Int} {r : Bool} (h : TyAt w g k i d r) (n : Nat) : TyAt (w.drewN n) g k i d r := h

set_option maxHeartbeats 1000000 in
theorem getLast_any {f : FuncId} {p : Nat} (hF : Rule f p) {w : World} {rb : Nat} {bs : List UInt8} {a : Nat} (h : RdAt w rb bs a) :
    Calls Try.prog 34 #[.pointer (some ⟨rb, 0, none⟩), .func (.func f) #[] #[]] w fun e w' => GotR w w' rb bs (lastR p bs (getT bs a)) e := by
  have hrb := h.lt
  have hb0 : Below w.heap.size w (w.alloc (.cells #[.int .i64 0, .int .i64 0, .int .i64 0, .bool false] 23)) := (Below.refl _ _).alloc (Nat.le_refl _) _
  have hT0 := TyAt.made w 0 0 0 false
  have HC : Hid (Calls Try.prog 52 #[.pointer (some ⟨rb, 0, none⟩)] (w.alloc (.cells #[.int .i64 0, .int .i64 0, .int .i64 0, .bool false] 23)) fun e w' => GotR (w.alloc (.cells #[.int .i64 0, .int .i64 0, .int .i64 0, .bool false] 23)) w' rb bs (getT bs a) e) :=
    readType_any (h.below hb0 hrb)
  clear h
  generalize getT bs a = g at *
  obtain ⟨⟨k, i, d, r⟩, at_, er⟩ := g
  go_enter Try.func34, Try.ntmps34
  go_wp2_with fail
  refine Calls.mono HC.out ?_
  rintro e w1 ⟨rfl, q1, q2⟩
  simp only at q1 ⊢
  have hT1 := hT0.only q2 (by omega)
  have hO := (Only.of_below (rb := rb) hb0).trans q2
  have hBt : Below w1.heap.size w1 (w1.alloc (.cells #[.int .i64 k, .int .i64 i, .int .i64 d, .bool r] 23)) := (Below.refl _ _).alloc (Nat.le_refl _) _
  have hT2 := hT1.later hBt
  have hT3 := TyAt.made w1 k i d r
  have hO2 := hO.new hBt
  have HR : Hid (er = 0 → RdAt (w1.alloc (.cells #[.int .i64 k, .int .i64 i, .int .i64 d, .bool r] 23)) rb bs at_) := fun e => (q1 e).only hBt
  clear HC q1 q2 hT0 hT1 hb0 hBt hO
  obtain ⟨c0, c1, c2, c3⟩ := hT2.cells
  have cf := hT2.melt
  by_cases he : er = 0
  · subst he
    have hR := HR.out rfl
    by_cases hl : at_ < bs.length
    · have HG : Hid (lastR p bs ((k, i, d, r), at_, 0) = badR 2) := by show _ = _; simp [lastR, hl]
      have HD : Hid (Calls Try.prog 53 #[.pointer (some ⟨rb, 0, none⟩)] (w1.alloc (.cells #[.int .i64 k, .int .i64 i, .int .i64 d, .bool r] 23)) fun e w' => e = .returned (.int .i64 2) ∧ ∃ n, w' = (w1.alloc (.cells #[.int .i64 k, .int .i64 i, .int .i64 d, .bool r] 23)).drewN n) := by
        have := done_any hR
        rw [if_pos hl] at this
        exact this
      clear hR HR
      go_wp2_with fail
      refine Calls.mono HD.out ?_
      rintro e w2 ⟨rfl, n, rfl⟩
      have HF := ((hT2.drewN n).set4 0 0 0 false).cells
      have HO := (hO2.drewN n).set4 (Nat.le_refl _) (.int .i64 0) (.int .i64 0) (.int .i64 0) (.bool false)
      go_wp2
      exact bodyPost_ret (v := .tuple #[.agg #[.int .i64 0, .int .i64 0, .int .i64 0, .bool false], .int .i64 2]) (by simp [results, Try.results34, go_sem, HF]) rfl (by rw [HG.out]; exact ⟨rfl, fun e => absurd e (by decide), HO⟩)
    · have HD : Hid (Calls Try.prog 53 #[.pointer (some ⟨rb, 0, none⟩)] (w1.alloc (.cells #[.int .i64 k, .int .i64 i, .int .i64 d, .bool r] 23)) fun e w' => e = .returned (.int .i64 0) ∧ ∃ n, w' = (w1.alloc (.cells #[.int .i64 k, .int .i64 i, .int .i64 d, .bool r] 23)).drewN n) := by
        have := done_any hR
        rw [if_neg hl] at this
        exact this
      clear HR
      obtain ⟨d0, d1, d2, d3⟩ := hT3.cells
      go_wp2_with fail
      refine Calls.mono HD.out ?_
      rintro e w2 ⟨rfl, n, rfl⟩
      clear HD
      by_cases hm : mayB p k i d r = true
      · have HG : Hid (lastR p bs ((k, i, d, r), at_, 0) = ((k, i, d, r), at_, 0)) := by show _ = _; simp [lastR, hl, mayT, hm]
        go_wp2_with fail
        refine (allowed_yes hF k i d r _ hm).mono ?_
        rintro e w3 ⟨rfl, hb⟩
        have hT4 := (hT2.drewN n).later hb
        obtain ⟨e0, e1, e2, e3⟩ := hT4.cells
        have ef := hT4.melt
        have HF := (hT4.set4 k i d r).cells
        have HO := ((hO2.drewN n).new hb).set4 (Nat.le_refl _) (.int .i64 k) (.int .i64 i) (.int .i64 d) (.bool r)
        have HR2 : Hid (RdAt ((((w3.setCell ⟨w.heap.size, 0, none⟩ (.int .i64 k)).setCell ⟨w.heap.size, 1, none⟩ (.int .i64 i)).setCell ⟨w.heap.size, 2, none⟩ (.int .i64 d)).setCell ⟨w.heap.size, 3, none⟩ (.bool r)) rb bs at_) :=
          ((hR.drewN n).only hb).below (below_set4 (Below.refl w.heap.size w3) (Nat.le_refl _) _ _ _ _) hrb
        clear hR
        go_wp2
        exact bodyPost_ret (v := .tuple #[.agg #[.int .i64 k, .int .i64 i, .int .i64 d, .bool r], .int .i64 0]) (by simp [results, Try.results34, go_sem, HF]) rfl (by rw [HG.out]; exact ⟨rfl, fun _ => HR2.out, HO⟩)
      · have hm' : mayB p k i d r = false := by simpa using hm
        have HG : Hid (lastR p bs ((k, i, d, r), at_, 0) = badR 10) := by show _ = _; simp [lastR, hl, mayT, hm']
        go_wp2_with fail
        refine (allowed_no hF k i d r _ hm').mono ?_
        rintro e w3 ⟨rfl, hb⟩
        have hT4 := (hT2.drewN n).later hb
        obtain ⟨e0, e1, e2, e3⟩ := hT4.cells
        have ef := hT4.melt
        have HF := (hT4.set4 0 0 0 false).cells
        have HO := ((hO2.drewN n).new hb).set4 (Nat.le_refl _) (.int .i64 0) (.int .i64 0) (.int .i64 0) (.bool false)
        go_wp2
        exact bodyPost_ret (v := .tuple #[.agg #[.int .i64 0, .int .i64 0, .int .i64 0, .bool false], .int .i64 10]) (by simp [results, Try.results34, go_sem, HF]) rfl (by rw [HG.out]; exact ⟨rfl, fun e => absurd e (by decide), HO⟩)
  · have HG : Hid (lastR p bs ((k, i, d, r), at_, er) = badR er) := by show _ = _; simp [lastR, he]
    have HE : Hid (¬ er = 0) := he
    have he2 : ((er : Int) != 0) = true := by rw [bne_iff_ne]; omega
    have HF := (hT2.set4 0 0 0 false).cells
    have HO := hO2.set4 (Nat.le_refl _) (.int .i64 0) (.int .i64 0) (.int .i64 0) (.bool false)
    clear he HR
    go_wp2
    exact bodyPost_ret (v := .tuple #[.agg #[.int .i64 0, .int .i64 0, .int .i64 0, .bool false], .int .i64 (er : Int)]) (by simp [results, Try.results34, go_sem, HF]) rfl (by rw [HG.out]; exact ⟨rfl, fun e => absurd e HE.out, HO⟩)

set_option maxHeartbeats 1000000 in
theorem getType_any {f : FuncId} {p : Nat} (hF : Rule f p) {w : World} {rb : Nat} {bs : List UInt8} {a : Nat} (h : RdAt w rb bs a) :
    Calls Try.prog 39 #[.pointer (some ⟨rb, 0, none⟩), .func (.func f) #[] #[]] w fun e w' => GotR w w' rb bs (allowR p (getT bs a)) e := by
  have hrb := h.lt
  have hb0 : Below w.heap.size w (w.alloc (.cells #[.int .i64 0, .int .i64 0, .int .i64 0, .bool false] 23)) := (Below.refl _ _).alloc (Nat.le_refl _) _
  have hT0 := TyAt.made w 0 0 0 false
  have HC : Hid (Calls Try.prog 52 #[.pointer (some ⟨rb, 0, none⟩)] (w.alloc (.cells #[.int .i64 0, .int .i64 0, .int .i64 0, .bool false] 23)) fun e w' => GotR (w.alloc (.cells #[.int .i64 0, .int .i64 0, .int .i64 0, .bool false] 23)) w' rb bs (getT bs a) e) :=
    readType_any (h.below hb0 hrb)
  clear h
  generalize getT bs a = g at *
  obtain ⟨⟨k, i, d, r⟩, at_, er⟩ := g
  go_enter Try.func39, Try.ntmps39
  go_wp2_with fail
  refine Calls.mono HC.out ?_
  rintro e w1 ⟨rfl, q1, q2⟩
  simp only at q1 ⊢
  have hT1 := hT0.only q2 (by omega)
  have hO := (Only.of_below (rb := rb) hb0).trans q2
  have hBt : Below w1.heap.size w1 (w1.alloc (.cells #[.int .i64 k, .int .i64 i, .int .i64 d, .bool r] 23)) := (Below.refl _ _).alloc (Nat.le_refl _) _
  have hT2 := hT1.later hBt
  have hT3 := TyAt.made w1 k i d r
  have hO2 := hO.new hBt
  have HR : Hid (er = 0 → RdAt (w1.alloc (.cells #[.int .i64 k, .int .i64 i, .int .i64 d, .bool r] 23)) rb bs at_) := fun e => (q1 e).only hBt
  clear HC q1 q2 hT0 hT1 hb0 hBt hO
  obtain ⟨c0, c1, c2, c3⟩ := hT2.cells
  have cf := hT2.melt
  by_cases he : er = 0
  · subst he
    have hR := HR.out rfl
    clear HR
    obtain ⟨d0, d1, d2, d3⟩ := hT3.cells
    by_cases hm : mayB p k i d r = true
    · have HG : Hid (allowR p ((k, i, d, r), at_, 0) = ((k, i, d, r), at_, 0)) := by show _ = _; simp [allowR, mayT, hm]
      go_wp2_with fail
      refine (allowed_yes hF k i d r _ hm).mono ?_
      rintro e w3 ⟨rfl, hb⟩
      have hT4 := hT2.later hb
      obtain ⟨e0, e1, e2, e3⟩ := hT4.cells
      have ef := hT4.melt
      have HF := (hT4.set4 k i d r).cells
      have HO := (hO2.new hb).set4 (Nat.le_refl _) (.int .i64 k) (.int .i64 i) (.int .i64 d) (.bool r)
      have HR2 : Hid (RdAt ((((w3.setCell ⟨w.heap.size, 0, none⟩ (.int .i64 k)).setCell ⟨w.heap.size, 1, none⟩ (.int .i64 i)).setCell ⟨w.heap.size, 2, none⟩ (.int .i64 d)).setCell ⟨w.heap.size, 3, none⟩ (.bool r)) rb bs at_) :=
        (hR.only hb).below (below_set4 (Below.refl w.heap.size w3) (Nat.le_refl _) _ _ _ _) hrb
      clear hR
      go_wp2
      exact bodyPost_ret (v := .tuple #[.agg #[.int .i64 k, .int .i64 i, .int .i64 d, .bool r], .int .i64 0]) (by simp [results, Try.results39, go_sem, HF]) rfl (by rw [HG.out]; exact ⟨rfl, fun _ => HR2.out, HO⟩)
    · have hm' : mayB p k i d r = false := by simpa using hm
      have HG : Hid (allowR p ((k, i, d, r), at_, 0) = badR 10) := by show _ = _; simp [allowR, mayT, hm']
      go_wp2_with fail
      refine (allowed_no hF k i d r _ hm').mono ?_
      rintro e w3 ⟨rfl, hb⟩
      have hT4 := hT2.later hb
      obtain ⟨e0, e1, e2, e3⟩ := hT4.cells
      have ef := hT4.melt
      have HF := (hT4.set4 0 0 0 false).cells
      have HO := (hO2.new hb).set4 (Nat.le_refl _) (.int .i64 0) (.int .i64 0) (.int .i64 0) (.bool false)
      go_wp2
      exact bodyPost_ret (v := .tuple #[.agg #[.int .i64 0, .int .i64 0, .int .i64 0, .bool false], .int .i64 10]) (by simp [results, Try.results39, go_sem, HF]) rfl (by rw [HG.out]; exact ⟨rfl, fun e => absurd e (by decide), HO⟩)
  · have HG : Hid (allowR p ((k, i, d, r), at_, er) = badR er) := by show _ = _; simp [allowR, he]
    have HE : Hid (¬ er = 0) := he
    have he2 : ((er : Int) != 0) = true := by rw [bne_iff_ne]; omega
    have HF := (hT2.set4 0 0 0 false).cells
    have HO := hO2.set4 (Nat.le_refl _) (.int .i64 0) (.int .i64 0) (.int .i64 0) (.bool false)
    clear he HR
    go_wp2
    exact bodyPost_ret (v := .tuple #[.agg #[.int .i64 0, .int .i64 0, .int .i64 0, .bool false], .int .i64 (er : Int)]) (by simp [results, Try.results39, go_sem, HF]) rfl (by rw [HG.out]; exact ⟨rfl, fun e => absurd e HE.out, HO⟩)

theorem idx_any {v : Value} {xs : List UInt8} {w : World} (hv : Bs w v xs) (hm : xs.length ≤ 10) (c : Nat) (hc : c < 256) :
    Calls Try.prog 66 #[v, .int .u8 (c : Int)] w fun e w' => (∃ n : Int, e = .returned (.int .i64 n) ∧ (0 ≤ n ↔ ∃ x ∈ xs, x.toNat = c)) ∧ w' = w := by
  obtain ⟨va, cap, rfl, h1, h2, h3⟩ := hv
  by_cases hne : xs = []
  · subst hne
    go_enter Try.func66, Try.ntmps66
    go_wp2
    go_loopw [5, 8] (fun _ i wr => i = .int .i64 0 ∧ wr = w) (fun _ _ _ => 0)
    case atStart => exact ⟨rfl, rfl⟩
    case round =>
      obtain ⟨rfl, rfl⟩ := hrel
      go_wp2
      go_ret
      exact ⟨⟨-1, rfl, by simp⟩, rfl⟩
  · obtain ⟨b, off, rfl, hb, hcell⟩ := h3 hne
    have HC : Hid (∀ i (h : i < xs.length), w.cell? ⟨b, off + i, none⟩ = some (.int .u8 (xs[i].toNat : Int))) := hcell
    clear hcell h3
    go_enter Try.func66, Try.ntmps66
    go_wp2
    go_loopw [5, 8] (fun _ i wr => ∃ n : Nat, n ≤ xs.length ∧ i = .int .i64 n ∧ wr = w ∧ Hid (∀ m (hm : m < xs.length), m < n → xs[m].toNat ≠ c)) (fun _ i _ => xs.length - (intOf i).toNat)
    case atStart => exact ⟨0, by omega, rfl, rfl, fun m _ h => by omega⟩
    case round =>
      obtain ⟨n, hn, rfl, rfl, HN⟩ := hrel
      by_cases hl : n < xs.length
      · have hcn := HC.out n hl
        have hx := xs[n].toNat_lt
        by_cases he : xs[n].toNat = c
        · have HE : Hid (∃ x ∈ xs, x.toNat = c) := ⟨xs[n], List.getElem_mem hl, he⟩
          rw [he] at hcn
          clear he
          go_wp2
          go_ret
          exact ⟨⟨n, rfl, ⟨fun _ => HE.out, fun _ => by omega⟩⟩, rfl⟩
        · have he' : ((c : Int) == (xs[n].toNat : Int)) = false := by rw [beq_eq_false_iff_ne]; omega
          have HE : Hid (¬ xs[n].toNat = c) := he
          clear he
          go_wp2
          go_roundw
          case rel => exact ⟨n + 1, by omega, by go_num, by first | trivial | rfl, fun m hm h => by
            by_cases g3 : m = n
            · subst g3; exact HE.out
            · exact HN.out m hm (by omega)⟩
          case measure => simp [intOf]; omega
      · have HE : Hid (¬ ∃ x ∈ xs, x.toNat = c) := by
          rintro ⟨x, hx, hxc⟩
          obtain ⟨m, hm, rfl⟩ := List.getElem_of_mem hx
          exact HN.out m hm (by omega) hxc
        go_wp2
        go_ret
        exact ⟨⟨-1, rfl, ⟨fun h => by omega, fun h => absurd h HE.out⟩⟩, rfl⟩

end Go.Proofs.Ytcjoidhbhffcgaa
