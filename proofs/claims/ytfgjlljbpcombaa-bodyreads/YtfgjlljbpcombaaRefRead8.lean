
/- Read of layer 8's references. -/
import Derived.Test.YtfgjlljbpcombaaBodyEnd8
import Derived.Test.YtfgjlljbpcombaaRefClauses8
namespace Go.Proofs.Ytfgjlljbpcombaa
set_option linter.unusedVariables false
set_option linter.unusedSimpArgs false
open Go.RowKit
attribute [local go_sem ↓] Go.wp_at_zero Go.wp_at_succ

/-- What the references' Read leaves, of a place that is one. -/
structure GotR8 (w w' : World) (bs : List UInt8) (a : Nat) (e : Ending) : Prop where
  no : (rdS (bs.drop a) (decide (a % 4 = 0))).2 ≠ 0 → e = .returned (.agg #[.slice none 0 0, .slice none 0 0, .int .i64 0, .int .i64 (rdS (bs.drop a) (decide (a % 4 = 0))).2])
  yes : (rdS (bs.drop a) (decide (a % 4 = 0))).2 = 0 → ∃ cv kv, e = .returned (.agg #[cv, kv, .int .i64 ((a + (rdS (bs.drop a) (decide (a % 4 = 0))).1 : Nat) : Int), .int .i64 0]) ∧ Bs w' cv (rdC (bs.drop a) (decide (a % 4 = 0))) ∧ Ws w' kv (rdK (bs.drop a) (decide (a % 4 = 0)))
  below : Below w.heap.size w w'
theorem GotR8.err {w w' : World} {bs : List UInt8} {a : Nat} {e : Ending} {k : Int} (hE : (rdS (bs.drop a) (decide (a % 4 = 0))).2 = k) (hk : k ≠ 0) (he : e = .returned (.agg #[.slice none 0 0, .slice none 0 0, .int .i64 0, .int .i64 k])) (hb : Below w.heap.size w w') : GotR8 w w' bs a e :=
  ⟨fun _ => by rw [hE]; exact he, fun h => absurd (hE ▸ h) hk, hb⟩

/-- Both boxes of the references' Read. -/
structure Ry (w0 w : World) (cv kv : Value) : Prop where
  res : At w w0.heap.size #[.slice none 0 0, .slice none 0 0, .int .i64 0, .int .i64 0] 39
  box : At w (w0.heap.size + 1) #[cv, kv] 25
  bel : Below w0.heap.size w0 w
  size : w0.heap.size + 2 ≤ w.heap.size
theorem Ry.mk0 (w : World) (cv kv : Value) : Ry w ((w.alloc (.cells #[.slice none 0 0, .slice none 0 0, .int .i64 0, .int .i64 0] 39)).alloc (.cells #[cv, kv] 25)) cv kv := by
  refine ⟨(At.made _ _ _).next _, ?_, ((Below.refl _ _).alloc (Nat.le_refl _) _).alloc (by simp) _, by simp⟩
  have := At.made (w.alloc (.cells #[.slice none 0 0, .slice none 0 0, .int .i64 0, .int .i64 0] 39)) #[cv, kv] 25
  rw [World.size_alloc] at this
  exact this
theorem Ry.later {w0 w w' : World} {cv kv : Value} (h : Ry w0 w cv kv) (hb : Below (w0.heap.size + 2) w w') : Ry w0 w' cv kv :=
  ⟨h.res.below hb (by omega), h.box.below hb (by omega), h.bel.trans (hb.mono (by omega)), Nat.le_trans h.size hb.size⟩
theorem Ry.setC {w0 w : World} {cv kv : Value} (h : Ry w0 w cv kv) (cv' : Value) : Ry w0 (w.setCell ⟨w0.heap.size + 1, 0, none⟩ cv') cv' kv :=
  ⟨h.res.other (by omega) _, h.box.set 0 cv', h.bel.setCell (by simp) _, by simpa [World.setCell] using h.size⟩
theorem Ry.done {w0 w : World} {cv kv : Value} (h : Ry w0 w cv kv) (a b : Value) (t e : Int) : (∀ o, (resW w w0.heap.size a b t e).cell? ⟨w0.heap.size, o, none⟩ = (#[a, b, .int .i64 t, .int .i64 e] : Array Value)[o]?) ∧ Below w0.heap.size w0 (resW w w0.heap.size a b t e) :=
  ⟨(h.res.set4 a b (.int .i64 t) (.int .i64 e)).cell, below_set4 h.bel (Nat.le_refl _) _ _ _ _⟩
theorem resW_bs {w : World} {g : Nat} {a b v : Value} {t e : Int} {xs : List UInt8} (h : Bs w v xs) (hn : xs ≠ [] → ∀ k, v.ownBlock = some k → k ≠ g) : Bs (resW w g a b t e) v xs := by
  by_cases hb : xs = []
  · subst hb
    obtain ⟨x, cap, rfl, h1, h2, h3⟩ := h
    exact ⟨x, cap, rfl, h1, h2, fun hne => absurd rfl hne⟩
  · unfold resW
    exact h.of_block (by simp [World.setCell]) fun k hv hlt => by
      have := hn hb k hv
      rw [Below.heap_setCell _ _ _ _ (show k ≠ g from this), Below.heap_setCell _ _ _ _ (show k ≠ g from this), Below.heap_setCell _ _ _ _ (show k ≠ g from this), Below.heap_setCell _ _ _ _ (show k ≠ g from this)]

theorem refRead_range {w : World} (xa : Option Addr) (n cx : Nat) (hn : n ≤ maxLen) (at_ : Int) (h : at_ < 0 ∨ (n : Int) < at_) :
    Calls Try.prog 16 #[.slice xa n cx, .int .i64 at_] w fun e w' => e = .returned (.agg #[.slice none 0 0, .slice none 0 0, .int .i64 0, .int .i64 3]) ∧ Below w.heap.size w w' := by
  unfold maxLen at hn
  have HB : Hid (∀ C, Below w.heap.size w (w.alloc (.cells C 39))) := fun C => (Below.refl _ _).alloc (Nat.le_refl _) _
  by_cases h0 : at_ < 0
  · clear h
    go_enter Try.func16, Try.ntmps16
    go_wp2
    exact bodyPost_ret (v := .agg #[.slice none 0 0, .slice none 0 0, .int .i64 0, .int .i64 3]) (by simp [results, Try.results16, go_sem]) rfl ⟨rfl, HB.out _⟩
  · have h1 : (n : Int) < at_ := by omega
    clear h
    go_enter Try.func16, Try.ntmps16
    go_wp2
    exact bodyPost_ret (v := .agg #[.slice none 0 0, .slice none 0 0, .int .i64 0, .int .i64 3]) (by simp [results, Try.results16, go_sem]) rfl ⟨rfl, HB.out _⟩

theorem refRead_end {w : World} (xa : Option Addr) (n cx : Nat) (hn : n ≤ maxLen) :
    Calls Try.prog 16 #[.slice xa n cx, .int .i64 (n : Int)] w fun e w' => e = .returned (.agg #[.slice none 0 0, .slice none 0 0, .int .i64 0, .int .i64 1]) ∧ Below w.heap.size w w' := by
  unfold maxLen at hn
  have HB : Hid (∀ C, Below w.heap.size w (w.alloc (.cells C 39))) := fun C => (Below.refl _ _).alloc (Nat.le_refl _) _
  have i0 : (0 : Int) ≤ (n : Int) := by omega
  go_enter Try.func16, Try.ntmps16
  go_wp2
  exact bodyPost_ret (v := .agg #[.slice none 0 0, .slice none 0 0, .int .i64 0, .int .i64 1]) (by simp [results, Try.results16, go_sem]) rfl ⟨rfl, HB.out _⟩

theorem resW_ws {w : World} {g : Nat} {a b v : Value} {t e : Int} {l : List Rw} (h : Ws w v l) (hn : ∀ k, v.ownBlock = some k → k ≠ g) : Ws (resW w g a b t e) v l := by
  unfold resW
  exact h.of_block (by simp [World.setCell]) fun k hv hlt => by
    have := hn k hv
    rw [Below.heap_setCell _ _ _ _ (show k ≠ g from this), Below.heap_setCell _ _ _ _ (show k ≠ g from this), Below.heap_setCell _ _ _ _ (show k ≠ g from this), Below.heap_setCell _ _ _ _ (show k ≠ g from this)]

theorem seg_lt88 (bs : List UInt8) (a n : Nat) (hn : n ≤ 4) : leN (seg bs a n) < 4294967296 := by
  have h := leN_lt (seg bs a n)
  have hl : (seg bs a n).length ≤ n := by simp [seg]; omega
  have h2 : 256 ^ (seg bs a n).length ≤ 256 ^ 4 := Nat.pow_le_pow_right (by omega) (by omega)
  omega

set_option maxHeartbeats 1000000 in
set_option maxRecDepth 100000 in
theorem refRead_small {w : World} {b off cap a : Nat} {bs : List UInt8} (hcell : ∀ i (h : i < bs.length), w.cell? ⟨b, off + i, none⟩ = some (.int .u8 (bs[i].toNat : Int))) (hbl : b < w.heap.size) (hcap : bs.length ≤ cap) (hcm : cap ≤ maxLen) (hl : bs.length ≤ 2000) (ha : a < bs.length) (hf : boF (bs.drop a) % 4 = 2) :
    Calls Try.prog 16 #[.slice (some ⟨b, off, none⟩) bs.length cap, .int .i64 (a : Int)] w fun e w' => GotR8 w w' bs a e := by
  have hdl : (bs.drop a).length + a = bs.length := by simp; omega
  have HV : Hid (∀ W, Below w.heap.size w W → Bs W (.slice (some ⟨b, off, none⟩) bs.length cap) bs) := fun W hW => Bs.later ⟨_, _, rfl, hcap, hcm, fun _ => ⟨b, off, rfl, hbl, hcell⟩⟩ hW
  have hbA : Below w.heap.size w (w.alloc (.cells #[.slice none 0 0, .slice none 0 0, .int .i64 0, .int .i64 0] 39)) := (Below.refl _ _).alloc (Nat.le_refl _) _
  have HB0 : Hid (∀ C, Below w.heap.size w (w.alloc (.cells C 39))) := fun C => (Below.refl _ _).alloc (Nat.le_refl _) _
  have hF := (bo_first (bs := bs.drop a) (by omega)).2
  obtain ⟨x, hx⟩ : ∃ x, x = bs[a].toNat := ⟨_, rfl⟩
  have hFx : boF (bs.drop a) = x := by rw [hF, hx]; simp
  have hca : (w.alloc (.cells #[.slice none 0 0, .slice none 0 0, .int .i64 0, .int .i64 0] 39)).cell? ⟨b, off + a, none⟩ = some (.int .u8 (x : Int)) := by rw [hbA.cell (p := ⟨b, off + a, none⟩) hbl, hcell a ha, hx]
  have hx255 : x < 256 := by rw [hx]; exact (bs[a]).toNat_lt
  obtain ⟨hS, hC, hK⟩ := rd_small (ds := bs.drop a) (al := decide (a % 4 = 0)) (by omega) hf
  rw [hFx] at hS hC hf
  have HSeg : Hid (∀ j n, seg bs (a + j) n = seg (bs.drop a) j n) := fun j n => by unfold seg; rw [List.drop_drop]
  have hm : ((x : Int) % 4 != 2) = false := by rw [bne_eq_false_iff_eq]; omega
  have ia1 : (0 : Int) ≤ (a : Int) := by omega
  have ia2 : (a : Int) < (bs.length : Int) := by omega
  have ia3 : ((a : Int) == (bs.length : Int)) = false := by rw [beq_eq_false_iff_ne]; omega
  clear hcell hF hFx hx
  obtain ⟨n, hn⟩ : ∃ n, n = x / 4 := ⟨_, rfl⟩
  rw [← hn] at hS hC
  have hni : ((n : Nat) : Int) = (x : Int) / 4 := by omega
  obtain ⟨p, hp⟩ : ∃ p, p = a + 1 := ⟨_, rfl⟩
  have HPN : Hid (((p : Nat) : Int) = (a : Int) + 1 ∧ ((n : Nat) : Int) = (x : Int) / 4) := ⟨by omega, hni⟩
  by_cases hn1 : n < 1
  · have HE : Hid ((rdS (bs.drop a) (decide (a % 4 = 0))).2 = 2) := by show _ = _; rw [hS, co_form (by omega)]
    have i1 : (x : Int) / 4 < 1 := by omega
    clear hS hC hK hn hni hp
    go_enter Try.func16, Try.ntmps16
    go_wp2
    exact bodyPost_ret (v := .agg #[.slice none 0 0, .slice none 0 0, .int .i64 0, .int .i64 2]) (by simp [results, Try.results16, go_sem]) rfl (GotR8.err HE.out (by decide) rfl (HB0.out _))
  · have i1 : (1 : Int) ≤ (x : Int) / 4 := by omega
    have i2 : (x : Int) / 4 ≤ 65535 := by omega
    by_cases hsh : bs.length < p + n
    · have HE : Hid ((rdS (bs.drop a) (decide (a % 4 = 0))).2 = 1) := by show _ = _; rw [hS, co_short (by omega) (by omega)]
      have i3 : (bs.length : Int) - ((a : Int) + 1) < (x : Int) / 4 := by omega
      clear hS hC hK hn hni hp
      go_enter Try.func16, Try.ntmps16
      go_wp2
      exact bodyPost_ret (v := .agg #[.slice none 0 0, .slice none 0 0, .int .i64 0, .int .i64 1]) (by simp [results, Try.results16, go_sem]) rfl (GotR8.err HE.out (by decide) rfl (HB0.out _))
    · have i3 : (x : Int) / 4 ≤ (bs.length : Int) - ((a : Int) + 1) := by omega
      have hpn : p + n ≤ bs.length := by omega
      obtain ⟨g1, g2⟩ := co_good (bs := bs.drop a) (a := 1) (n := n) (by omega) (by omega)
      have HOK : Hid (rdS (bs.drop a) (decide (a % 4 = 0)) = (1 + n, 0) ∧ rdC (bs.drop a) (decide (a % 4 = 0)) = seg bs p n ∧ rdK (bs.drop a) (decide (a % 4 = 0)) = []) := ⟨by rw [hS, g1], by rw [hC, g2, hp, HSeg.out], hK⟩
      have HPp : Hid (p = a + 1) := hp
      have i4 : ((x : Int) == 3) = false := by rw [beq_eq_false_iff_ne]; omega
      have i5 : ((x : Int) == 11) = false := by rw [beq_eq_false_iff_ne]; omega
      have HTOT : Hid (((a + (1 + n) : Nat) : Int) = (a : Int) + 1 + (x : Int) / 4) := by show _ = _; have := HPN.out.2; omega
      clear hS hC hK g1 g2 hn hni hp
      go_enter Try.func16, Try.ntmps16
      have hlenS : (seg bs p n).length = n := seg_len8 bs p n hpn
      obtain ⟨a2, cap2, hsl, hbs2, -⟩ := slice_bs (P := Try.prog) (HV.out (w.alloc (.cells #[.slice none 0 0, .slice none 0 0, .int .i64 0, .int .i64 0] 39)) hbA) p n hpn 22 5 Try.underlying22 rfl
      rw [HPN.out.1, HPN.out.2] at hsl
      have hry := Ry.mk0 w (.slice none 0 0) (.slice none 0 0)
      have hbB : Below (w.alloc (.cells #[.slice none 0 0, .slice none 0 0, .int .i64 0, .int .i64 0] 39)).heap.size (w.alloc (.cells #[.slice none 0 0, .slice none 0 0, .int .i64 0, .int .i64 0] 39)) ((w.alloc (.cells #[.slice none 0 0, .slice none 0 0, .int .i64 0, .int .i64 0] 39)).alloc (.cells #[.slice none 0 0, .slice none 0 0] 25)).drew := Below.drewN ((Below.refl _ _).alloc (Nat.le_refl _) _) 1
      have HSrc : Hid (Src Try.prog 1 22 (.slice a2 n cap2) n (u8s (seg bs p n)) ((w.alloc (.cells #[.slice none 0 0, .slice none 0 0, .int .i64 0, .int .i64 0] 39)).alloc (.cells #[.slice none 0 0, .slice none 0 0] 25)).drew) := by
        have := (hbs2.later hbB).src (P := Try.prog) Try.underlying22
        rw [hlenS] at this
        exact this
      have HRY : Hid (Ry w ((w.alloc (.cells #[.slice none 0 0, .slice none 0 0, .int .i64 0, .int .i64 0] 39)).alloc (.cells #[.slice none 0 0, .slice none 0 0] 25)) (.slice none 0 0) (.slice none 0 0)) := hry
      have HRYd : Hid (Ry w ((w.alloc (.cells #[.slice none 0 0, .slice none 0 0, .int .i64 0, .int .i64 0] 39)).alloc (.cells #[.slice none 0 0, .slice none 0 0] 25)).drew (.slice none 0 0) (.slice none 0 0)) := hry.later (Below.drewN (Below.refl _ _) 1)
      have tb := hry.box.cell
      have tbm := hry.box.melt
      have HLS : Hid ((seg bs p n).length = n) := hlenS
      have hzB := HRYd.out.size
      have hw1 : IntKind.i64.wrap (((a : Int) + 1) + ((x : Int) / 4)) = ((a : Int) + 1) + ((x : Int) / 4) := by simp [IntKind.wrap, IntKind.signed, IntKind.bits]; omega
      clear hbs2 hry hbB hlenS
      go_wp2_with fail
      go_region_law (refine step_append_at rfl (.tmp 94) (.tmp 100) 22 22 rfl (w.heap.size + 2) 5 (.int .u8 0) 1 Try.underlying22 Try.infoU8 rfl (by simp [Act.eval, Act.put]) (by simp [Act.eval, Act.put]) (OwnV.nil _ _ _) HSrc.out (by simp [maxLen]; omega) (by simp; omega) hzB ?_; intro v8 w8 ho8 hg8; have hr8 := HRYd.out.later (grown8 hg8 hzB (fun k hk => by simp [Value.ownBlock] at hk)); have hO8 : Own w8 (w.heap.size + 2) 5 v8 (seg bs p n) := OwnV.own (by simpa using ho8); obtain ⟨va, vc, hv8, -, -⟩ := hO8.shape; rw [HLS.out] at hv8; subst hv8; have tb8 := hr8.box.cell; have tbm8 := hr8.box.melt; have H8 : Hid (Ry w (w8.setCell ⟨w.heap.size + 1, 0, none⟩ (.slice va n vc)) (.slice va n vc) (.slice none 0 0)) := hr8.setC _; have HO8 : Hid (Own (w8.setCell ⟨w.heap.size + 1, 0, none⟩ (.slice va n vc)) (w.heap.size + 2) 5 (.slice va n vc) (seg bs p n)) := OwnV.own (hO8.v.of_block (fun k hk _ => Below.heap_setCell _ _ _ _ (show k ≠ w.heap.size + 1 by have := (hO8.block k hk).1; omega))); clear ho8 hg8 hr8 hO8)
      all_goals have tr := H8.out.res.cell
      all_goals have trm := H8.out.res.melt
      all_goals have tb9 := H8.out.box.cell
      all_goals obtain ⟨q1, q2⟩ := H8.out.done (.slice va n vc) (.slice none 0 0) ((a : Int) + 1 + (x : Int) / 4) 0
      all_goals have hBf : Bs (resW (w8.setCell ⟨w.heap.size + 1, 0, none⟩ (.slice va n vc)) w.heap.size (.slice va n vc) (.slice none 0 0) ((a : Int) + 1 + (x : Int) / 4) 0) (.slice va n vc) (seg bs p n) := resW_bs HO8.out.bs (fun _ k hk => by have := (HO8.out.block k hk).1; omega)
      all_goals unfold resW at q1 q2 hBf
      all_goals have HQ2 : Hid (Below w.heap.size w (((((w8.setCell ⟨w.heap.size + 1, 0, none⟩ (.slice va n vc)).setCell ⟨w.heap.size, 0, none⟩ (.slice va n vc)).setCell ⟨w.heap.size, 1, none⟩ (.slice none 0 0)).setCell ⟨w.heap.size, 2, none⟩ (.int .i64 ((a : Int) + 1 + (x : Int) / 4))).setCell ⟨w.heap.size, 3, none⟩ (.int .i64 (0)))) := q2
      all_goals have HBf : Hid (Bs (((((w8.setCell ⟨w.heap.size + 1, 0, none⟩ (.slice va n vc)).setCell ⟨w.heap.size, 0, none⟩ (.slice va n vc)).setCell ⟨w.heap.size, 1, none⟩ (.slice none 0 0)).setCell ⟨w.heap.size, 2, none⟩ (.int .i64 ((a : Int) + 1 + (x : Int) / 4))).setCell ⟨w.heap.size, 3, none⟩ (.int .i64 (0))) (.slice va n vc) (seg bs p n)) := hBf
      all_goals clear q2 hBf tb tbm tb8 tbm8
      all_goals go_wp2
      all_goals exact bodyPost_ret (v := .agg #[.slice va n vc, .slice none 0 0, .int .i64 ((a : Int) + 1 + (x : Int) / 4), .int .i64 0]) (by simp [results, Try.results16, go_sem, q1]) rfl ⟨fun h => absurd (by rw [HOK.out.1]) h, fun _ => ⟨_, _, by rw [HOK.out.1, HTOT.out], by rw [HOK.out.2.1]; exact HBf.out, by rw [HOK.out.2.2]; exact Ws.nil _⟩, HQ2.out⟩

set_option maxHeartbeats 1000000 in
theorem refRead_bad {w : World} {b off cap a : Nat} {bs : List UInt8} (hcell : ∀ i (h : i < bs.length), w.cell? ⟨b, off + i, none⟩ = some (.int .u8 (bs[i].toNat : Int))) (hbl : b < w.heap.size) (hcap : bs.length ≤ cap) (hcm : cap ≤ maxLen) (hl : bs.length ≤ 2000) (ha : a < bs.length) (hf : boF (bs.drop a) % 4 ≠ 2) (hbad : ¬ (boF (bs.drop a) = 3 ∨ boF (bs.drop a) = 11) ∨ a % 4 ≠ 0) :
    Calls Try.prog 16 #[.slice (some ⟨b, off, none⟩) bs.length cap, .int .i64 (a : Int)] w fun e w' => GotR8 w w' bs a e := by
  have hdl : (bs.drop a).length + a = bs.length := by simp; omega
  have hbA : Below w.heap.size w (w.alloc (.cells #[.slice none 0 0, .slice none 0 0, .int .i64 0, .int .i64 0] 39)) := (Below.refl _ _).alloc (Nat.le_refl _) _
  have HB0 : Hid (∀ C, Below w.heap.size w (w.alloc (.cells C 39))) := fun C => (Below.refl _ _).alloc (Nat.le_refl _) _
  have hF := (bo_first (bs := bs.drop a) (by omega)).2
  obtain ⟨x, hx⟩ : ∃ x, x = bs[a].toNat := ⟨_, rfl⟩
  have hFx : boF (bs.drop a) = x := by rw [hF, hx]; simp
  have hca : (w.alloc (.cells #[.slice none 0 0, .slice none 0 0, .int .i64 0, .int .i64 0] 39)).cell? ⟨b, off + a, none⟩ = some (.int .u8 (x : Int)) := by rw [hbA.cell (p := ⟨b, off + a, none⟩) hbl, hcell a ha, hx]
  have hx255 : x < 256 := by rw [hx]; exact (bs[a]).toNat_lt
  have HE : Hid ((rdS (bs.drop a) (decide (a % 4 = 0))).2 = 2) := by
    show _ = _
    have h2 := bo_bad (bs := bs.drop a) (al := decide (a % 4 = 0)) (by omega) (by rcases hbad with h | h; exact .inl h; exact .inr (decide_eq_false h))
    rw [rd_no2 hf (by rw [h2]; decide), h2]
  rw [hFx] at hf hbad
  have hm : ((x : Int) % 4 != 2) = true := by rw [bne_iff_ne]; omega
  have ia1 : (0 : Int) ≤ (a : Int) := by omega
  have ia2 : (a : Int) < (bs.length : Int) := by omega
  have ia3 : ((a : Int) == (bs.length : Int)) = false := by rw [beq_eq_false_iff_ne]; omega
  clear hcell hF hFx hx
  by_cases h3 : x = 3
  · have j1 : ((x : Int) != 3) = false := by rw [bne_eq_false_iff_eq]; omega
    have j2 : ((a : Int) % 4 != 0) = true := by rw [bne_iff_ne]; omega
    clear h3 hbad
    go_enter Try.func16, Try.ntmps16
    go_wp2
    exact bodyPost_ret (v := .agg #[.slice none 0 0, .slice none 0 0, .int .i64 0, .int .i64 2]) (by simp [results, Try.results16, go_sem]) rfl (GotR8.err HE.out (by decide) rfl (HB0.out _))
  · have j1 : ((x : Int) != 3) = true := by rw [bne_iff_ne]; omega
    by_cases h11 : x = 11
    · have j3 : ((x : Int) != 11) = false := by rw [bne_eq_false_iff_eq]; omega
      have j2 : ((a : Int) % 4 != 0) = true := by rw [bne_iff_ne]; omega
      clear h3 h11 hbad
      go_enter Try.func16, Try.ntmps16
      go_wp2
      exact bodyPost_ret (v := .agg #[.slice none 0 0, .slice none 0 0, .int .i64 0, .int .i64 2]) (by simp [results, Try.results16, go_sem]) rfl (GotR8.err HE.out (by decide) rfl (HB0.out _))
    · have j3 : ((x : Int) != 11) = true := by rw [bne_iff_ne]; omega
      clear h3 h11 hbad
      go_enter Try.func16, Try.ntmps16
      go_wp2
      exact bodyPost_ret (v := .agg #[.slice none 0 0, .slice none 0 0, .int .i64 0, .int .i64 2]) (by simp [results, Try.results16, go_sem]) rfl (GotR8.err HE.out (by decide) rfl (HB0.out _))

set_option maxHeartbeats 2000000 in
set_option maxRecDepth 100000 in
theorem refRead_3 {w : World} {b off cap a : Nat} {bs : List UInt8} (hcell : ∀ i (h : i < bs.length), w.cell? ⟨b, off + i, none⟩ = some (.int .u8 (bs[i].toNat : Int))) (hbl : b < w.heap.size) (hcap : bs.length ≤ cap) (hcm : cap ≤ maxLen) (hl : bs.length ≤ 2000) (ha : a < bs.length) (hf : boF (bs.drop a) = 3) (ha4 : a % 4 = 0) :
    Calls Try.prog 16 #[.slice (some ⟨b, off, none⟩) bs.length cap, .int .i64 (a : Int)] w fun e w' => GotR8 w w' bs a e := by
  have hdl : (bs.drop a).length + a = bs.length := by simp; omega
  have HCELL : Hid (∀ W, Below w.heap.size w W → ∀ i (h : i < bs.length), W.cell? ⟨b, off + i, none⟩ = some (.int .u8 (bs[i].toNat : Int))) := fun W hW i hi => by rw [hW.cell (p := ⟨b, off + i, none⟩) hbl]; exact hcell i hi
  have HV : Hid (∀ W, Below w.heap.size w W → Bs W (.slice (some ⟨b, off, none⟩) bs.length cap) bs) := fun W hW => Bs.later ⟨_, _, rfl, hcap, hcm, fun _ => ⟨b, off, rfl, hbl, hcell⟩⟩ hW
  have hbA : Below w.heap.size w (w.alloc (.cells #[.slice none 0 0, .slice none 0 0, .int .i64 0, .int .i64 0] 39)) := (Below.refl _ _).alloc (Nat.le_refl _) _
  have HBA : Hid (Below w.heap.size w (w.alloc (.cells #[.slice none 0 0, .slice none 0 0, .int .i64 0, .int .i64 0] 39))) := hbA
  have HB0 : Hid (∀ C, Below w.heap.size w (w.alloc (.cells C 39))) := fun C => (Below.refl _ _).alloc (Nat.le_refl _) _
  have hF := (bo_first (bs := bs.drop a) (by omega)).2
  have hx : bs[a].toNat = 3 := by rw [← hf, hF]; simp
  have hca : (w.alloc (.cells #[.slice none 0 0, .slice none 0 0, .int .i64 0, .int .i64 0] 39)).cell? ⟨b, off + a, none⟩ = some (.int .u8 3) := by rw [hbA.cell (p := ⟨b, off + a, none⟩) hbl, hcell a ha, hx]; rfl
  have HSeg : Hid (∀ j n, seg bs (a + j) n = seg (bs.drop a) j n) := fun j n => by unfold seg; rw [List.drop_drop]
  have hal : decide (a % 4 = 0) = true := decide_eq_true ha4
  have h2 := bo_good (bs := bs.drop a) (al := decide (a % 4 = 0)) (by omega) (by omega) hal
  have HF : Hid (boF (bs.drop a) = 3) := hf
  have HB3 : Hid (bo3 (bs.drop a) (decide (a % 4 = 0)) = zeS (bs.drop a) (1, 0) 3) := by show _ = _; unfold bo3; rw [h2]
  have HNo3 : Hid (∀ i q e, i ≤ 3 → zeS (bs.drop a) (1, 0) i = (q, e) → e ≠ 0 → (rdS (bs.drop a) (decide (a % 4 = 0))).2 = e) := fun i q e hi hz he => by
    have h3 : bo3 (bs.drop a) (decide (a % 4 = 0)) = (q, e) := by rw [HB3.out, zeS_stop (i := i) (by rw [hz]; exact he) _ hi, hz]
    rw [rd_no3 (by rw [hf]; decide) (by rw [h3]; exact he), h3]
  have HD : Hid (∀ j (h : j < (bs.drop a).length), (w.alloc (.cells #[.slice none 0 0, .slice none 0 0, .int .i64 0, .int .i64 0] 39)).cell? ⟨b, off + (a + j), none⟩ = some (.int .u8 ((bs.drop a)[j].toNat : Int))) := fun j hj => by
    rw [hbA.cell (p := ⟨b, off + (a + j), none⟩) hbl, hcell (a + j) (by omega)]
    simp
  have ia1 : (0 : Int) ≤ (a : Int) := by omega
  have ia2 : (a : Int) < (bs.length : Int) := by omega
  have ia3 : ((a : Int) == (bs.length : Int)) = false := by rw [beq_eq_false_iff_ne]; omega
  have ia4 : ((a : Int) % 4 != 0) = false := by rw [bne_eq_false_iff_eq]; omega
  clear hcell hF hx hf hal h2 ha4 hbA
  go_enter Try.func16, Try.ntmps16
  go_wp2
  go_loopw [1, 8] (fun u z wr => wr = (w.alloc (.cells #[.slice none 0 0, .slice none 0 0, .int .i64 0, .int .i64 0] 39)) ∧ ∃ i : Nat, i ≤ 3 ∧ z = .int .i64 (i : Int) ∧ u = .int .i64 ((a + 1 + i : Nat) : Int) ∧ zeS (bs.drop a) (1, 0) i = (1 + i, 0)) (fun _ z _ => 3 - (intOf z).toNat)
  case atStart => exact ⟨rfl, 0, Nat.zero_le _, rfl, rfl, rfl⟩
  case round =>
    obtain ⟨hwr, i, hi, rfl, rfl, hz⟩ := hrel
    subst wr
    clear hca ia3 ia4
    obtain ⟨p4, hp4⟩ : ∃ q, q = a + 1 + i := ⟨_, rfl⟩
    have HP4 : Hid (p4 = a + (1 + i)) := by show _ = _; omega
    rw [← hp4]
    have hp4l : p4 ≤ 2004 := by omega
    clear hp4
    by_cases hi3 : i < 3
    · by_cases hsh : bs.length ≤ p4
      · have hsh' : (bs.length : Int) ≤ (p4 : Int) := by omega
        have HE : Hid ((rdS (bs.drop a) (decide (a % 4 = 0))).2 = 1) := HNo3.out (i + 1) _ 1 (by omega) (ze_short hz (by have := HP4.out; omega)) (by decide)
        clear hz
        go_wp2
        exact bodyPost_ret (v := .agg #[.slice none 0 0, .slice none 0 0, .int .i64 0, .int .i64 1]) (by simp [results, Try.results16, go_sem]) rfl (GotR8.err HE.out (by decide) rfl (HB0.out _))
      · have hsh' : (p4 : Int) < (bs.length : Int) := by omega
        have hlt : 1 + i < (bs.drop a).length := by have := HP4.out; omega
        have hcx : (w.alloc (.cells #[.slice none 0 0, .slice none 0 0, .int .i64 0, .int .i64 0] 39)).cell? ⟨b, off + p4, none⟩ = some (.int .u8 ((bs.drop a)[1 + i].toNat : Int)) := by rw [HP4.out]; exact HD.out (1 + i) hlt
        by_cases hx : (bs.drop a)[1 + i].toNat = 0
        · have HZ : Hid (zeS (bs.drop a) (1, 0) (i + 1) = (1 + (i + 1), 0)) := ze_good hz hlt hx
          have hx' : (((bs.drop a)[1 + i].toNat : Int) != 0) = false := by rw [bne_eq_false_iff_eq]; omega
          clear hz hx
          generalize (bs.drop a)[1 + i].toNat = x at *
          go_wp2
          go_roundw
          case rel => exact ⟨trivial, i + 1, by omega, by go_num, by have := HP4.out; go_num, HZ.out⟩
          case measure => simp [intOf]; omega
        · have HE : Hid ((rdS (bs.drop a) (decide (a % 4 = 0))).2 = 2) := HNo3.out (i + 1) _ 2 (by omega) (ze_bad hz hlt hx) (by decide)
          have hx' : (((bs.drop a)[1 + i].toNat : Int) != 0) = true := by rw [bne_iff_ne]; omega
          clear hz hx
          generalize (bs.drop a)[1 + i].toNat = x at *
          go_wp2
          exact bodyPost_ret (v := .agg #[.slice none 0 0, .slice none 0 0, .int .i64 0, .int .i64 2]) (by simp [results, Try.results16, go_sem]) rfl (GotR8.err HE.out (by decide) rfl (HB0.out _))
    · have hi3' : i = 3 := by omega
      subst hi3'
      have h3 : bo3 (bs.drop a) (decide (a % 4 = 0)) = (4, 0) := by rw [HB3.out, hz]
      clear hz
      by_cases hsh : (bs.drop a).length < 8
      · have HE : Hid ((rdS (bs.drop a) (decide (a % 4 = 0))).2 = 1) := rd_len (by rw [HF.out]; decide) h3 hsh
        have hsh' : (bs.length : Int) - (p4 : Int) < 4 := by have := HP4.out; omega
        clear h3
        go_wp2
        exact bodyPost_ret (v := .agg #[.slice none 0 0, .slice none 0 0, .int .i64 0, .int .i64 1]) (by simp [results, Try.results16, go_sem]) rfl (GotR8.err HE.out (by decide) rfl (HB0.out _))
      · obtain ⟨-, -, e5, eC⟩ := bo_len h3 (by omega)
        have hsh' : (4 : Int) ≤ (bs.length : Int) - (p4 : Int) := by have := HP4.out; omega
        obtain ⟨n, hn⟩ : ∃ n, n = leN (seg (bs.drop a) 4 4) := ⟨_, rfl⟩
        rw [← hn] at e5 eC
        have hR := refNum_any (HV.out (w.alloc (.cells #[.slice none 0 0, .slice none 0 0, .int .i64 0, .int .i64 0] 39)) HBA.out) p4 4 (by omega) (by omega) (by have := HP4.out; omega)
        have hsg : leN (seg bs p4 4) = n := by rw [hn, HP4.out, HSeg.out]
        rw [hsg] at hR
        have HR : Hid (Calls Try.prog 28 #[.slice (some ⟨b, off, none⟩) bs.length cap, .int .i64 (p4 : Int), .int .i64 4] (w.alloc (.cells #[.slice none 0 0, .slice none 0 0, .int .i64 0, .int .i64 0] 39)) fun e w' => e = .returned (.int .u64 (n : Int)) ∧ w' = (w.alloc (.cells #[.slice none 0 0, .slice none 0 0, .int .i64 0, .int .i64 0] 39))) := hR
        have hnl : n < 4294967296 := by rw [hn]; exact seg_lt88 _ _ _ (by omega)
        clear hn hR hsg h3
        go_wp2_with fail
        refine Calls.mono HR.out ?_
        rintro e wz ⟨rfl, hz⟩
        subst wz
        clear HR
        have hbA := HBA.out
        by_cases hok : 1 ≤ n ∧ n ≤ 65535
        · have i1 : (1 : Int) ≤ (n : Int) := by omega
          have i2 : (n : Int) ≤ 65535 := by omega
          obtain ⟨p, hp⟩ : ∃ p, p = p4 + 4 := ⟨_, rfl⟩
          have HPp : Hid (p = a + 8) := by show _ = _; have := HP4.out; omega
          have HPN : Hid (((p : Nat) : Int) = (p4 : Int) + 4) := by show _ = _; omega
          by_cases hshn : bs.length < p + n
          · have HE : Hid ((rdS (bs.drop a) (decide (a % 4 = 0))).2 = 1) := by
              show _ = _
              have e5' := co_short (bs := bs.drop a) (a := 8) hok (by have := HPp.out; omega)
              rw [rd_no5 (by rw [HF.out]; decide) (by rw [e5, e5']; decide), e5, e5']
            have i3 : (bs.length : Int) - ((p4 : Int) + 4) < (n : Int) := by omega
            clear e5 eC hok hp
            go_wp2
            exact bodyPost_ret (v := .agg #[.slice none 0 0, .slice none 0 0, .int .i64 0, .int .i64 1]) (by simp [results, Try.results16, go_sem]) rfl (GotR8.err HE.out (by decide) rfl (HB0.out _))
          · have i3 : (n : Int) ≤ (bs.length : Int) - ((p4 : Int) + 4) := by omega
            have hpn : p + n ≤ bs.length := by omega
            obtain ⟨g1, g2⟩ := co_good (bs := bs.drop a) (a := 8) (n := n) hok (by have := HPp.out; omega)
            rw [g1] at e5
            rw [g2] at eC
            have hds : seg (bs.drop a) 8 n = seg bs p n := by rw [HPp.out, HSeg.out]
            have hdl8 : 8 + n ≤ (bs.drop a).length := by have := HPp.out; omega
            obtain ⟨r1, r2⟩ := rd_big3 HF.out e5 eC hdl8
            by_cases h64 : n < 64
            · have HE : Hid ((rdS (bs.drop a) (decide (a % 4 = 0))).2 = 2) := r1 h64
              have i4 : (n : Int) < 64 := by omega
              clear e5 eC hok hp g1 g2 r1 r2
              have hlenS : (seg bs p n).length = n := seg_len8 bs p n hpn
              obtain ⟨a2, cap2, hsl, hbs2, -⟩ := slice_bs (P := Try.prog) (HV.out (w.alloc (.cells #[.slice none 0 0, .slice none 0 0, .int .i64 0, .int .i64 0] 39)) hbA) p n hpn 22 5 Try.underlying22 rfl
              rw [HPN.out] at hsl
              have hry := Ry.mk0 w (.slice none 0 0) (.slice none 0 0)
              have hbB : Below (w.alloc (.cells #[.slice none 0 0, .slice none 0 0, .int .i64 0, .int .i64 0] 39)).heap.size (w.alloc (.cells #[.slice none 0 0, .slice none 0 0, .int .i64 0, .int .i64 0] 39)) ((w.alloc (.cells #[.slice none 0 0, .slice none 0 0, .int .i64 0, .int .i64 0] 39)).alloc (.cells #[.slice none 0 0, .slice none 0 0] 25)).drew := Below.drewN ((Below.refl _ _).alloc (Nat.le_refl _) _) 1
              have HSrc : Hid (Src Try.prog 1 22 (.slice a2 n cap2) n (u8s (seg bs p n)) ((w.alloc (.cells #[.slice none 0 0, .slice none 0 0, .int .i64 0, .int .i64 0] 39)).alloc (.cells #[.slice none 0 0, .slice none 0 0] 25)).drew) := by
                have := (hbs2.later hbB).src (P := Try.prog) Try.underlying22
                rw [hlenS] at this
                exact this
              have HRY : Hid (Ry w ((w.alloc (.cells #[.slice none 0 0, .slice none 0 0, .int .i64 0, .int .i64 0] 39)).alloc (.cells #[.slice none 0 0, .slice none 0 0] 25)) (.slice none 0 0) (.slice none 0 0)) := hry
              have HRYd : Hid (Ry w ((w.alloc (.cells #[.slice none 0 0, .slice none 0 0, .int .i64 0, .int .i64 0] 39)).alloc (.cells #[.slice none 0 0, .slice none 0 0] 25)).drew (.slice none 0 0) (.slice none 0 0)) := hry.later (Below.drewN (Below.refl _ _) 1)
              have tb := hry.box.cell
              have tbm := hry.box.melt
              have HLS : Hid ((seg bs p n).length = n) := hlenS
              have hzB := HRYd.out.size
              have hw1 : IntKind.i64.wrap ((p4 : Int) + 4 + (n : Int)) = (p4 : Int) + 4 + (n : Int) := by simp [IntKind.wrap, IntKind.signed, IntKind.bits]; omega
              clear hbs2 hry hbB hlenS
              go_wp2_with fail
              go_region_law (refine step_append_at rfl (.tmp 94) (.tmp 100) 22 22 rfl (w.heap.size + 2) 5 (.int .u8 0) 1 Try.underlying22 Try.infoU8 rfl (by simp [Act.eval, Act.put]) (by simp [Act.eval, Act.put]) (OwnV.nil _ _ _) HSrc.out (by simp [maxLen]; omega) (by simp; omega) hzB ?_; intro v8 w8 ho8 hg8; have hr8 := HRYd.out.later (grown8 hg8 hzB (fun k hk => by simp [Value.ownBlock] at hk)); have hO8 : Own w8 (w.heap.size + 2) 5 v8 (seg bs p n) := OwnV.own (by simpa using ho8); obtain ⟨va, vc, hv8, -, -⟩ := hO8.shape; rw [HLS.out] at hv8; subst hv8; have tb8 := hr8.box.cell; have tbm8 := hr8.box.melt; have H8 : Hid (Ry w (w8.setCell ⟨w.heap.size + 1, 0, none⟩ (.slice va n vc)) (.slice va n vc) (.slice none 0 0)) := hr8.setC _; have HO8 : Hid (Own (w8.setCell ⟨w.heap.size + 1, 0, none⟩ (.slice va n vc)) (w.heap.size + 2) 5 (.slice va n vc) (seg bs p n)) := OwnV.own (hO8.v.of_block (fun k hk _ => Below.heap_setCell _ _ _ _ (show k ≠ w.heap.size + 1 by have := (hO8.block k hk).1; omega))); clear ho8 hg8 hr8 hO8)
              all_goals have tr := H8.out.res.cell
              all_goals have trm := H8.out.res.melt
              all_goals have tb9 := H8.out.box.cell
              all_goals obtain ⟨q1, q2⟩ := H8.out.done (.slice none 0 0) (.slice none 0 0) 0 2
              all_goals unfold resW at q1 q2
              all_goals have HQ2 : Hid (Below w.heap.size w (((((w8.setCell ⟨w.heap.size + 1, 0, none⟩ (.slice va n vc)).setCell ⟨w.heap.size, 0, none⟩ (.slice none 0 0)).setCell ⟨w.heap.size, 1, none⟩ (.slice none 0 0)).setCell ⟨w.heap.size, 2, none⟩ (.int .i64 (0))).setCell ⟨w.heap.size, 3, none⟩ (.int .i64 (2)))) := q2
              all_goals clear q2 tb tbm tb8 tbm8
              all_goals go_wp2
              all_goals exact bodyPost_ret (v := .agg #[.slice none 0 0, .slice none 0 0, .int .i64 0, .int .i64 2]) (by simp [results, Try.results16, go_sem, q1]) rfl (GotR8.err HE.out (by decide) rfl HQ2.out)
            · obtain ⟨s1, s2, s3⟩ := r2 (by omega)
              have HOK : Hid (rdS (bs.drop a) (decide (a % 4 = 0)) = (8 + n, 0) ∧ rdC (bs.drop a) (decide (a % 4 = 0)) = seg bs p n ∧ rdK (bs.drop a) (decide (a % 4 = 0)) = []) := ⟨s1, by rw [s2, hds], s3⟩
              have HTOT : Hid (((a + (8 + n) : Nat) : Int) = (p4 : Int) + 4 + (n : Int)) := by show _ = _; have := HP4.out; omega
              have i4 : (64 : Int) ≤ (n : Int) := by omega
              clear e5 eC hok hp g1 g2 r1 r2 s1 s2 s3
              have hlenS : (seg bs p n).length = n := seg_len8 bs p n hpn
              obtain ⟨a2, cap2, hsl, hbs2, -⟩ := slice_bs (P := Try.prog) (HV.out (w.alloc (.cells #[.slice none 0 0, .slice none 0 0, .int .i64 0, .int .i64 0] 39)) hbA) p n hpn 22 5 Try.underlying22 rfl
              rw [HPN.out] at hsl
              have hry := Ry.mk0 w (.slice none 0 0) (.slice none 0 0)
              have hbB : Below (w.alloc (.cells #[.slice none 0 0, .slice none 0 0, .int .i64 0, .int .i64 0] 39)).heap.size (w.alloc (.cells #[.slice none 0 0, .slice none 0 0, .int .i64 0, .int .i64 0] 39)) ((w.alloc (.cells #[.slice none 0 0, .slice none 0 0, .int .i64 0, .int .i64 0] 39)).alloc (.cells #[.slice none 0 0, .slice none 0 0] 25)).drew := Below.drewN ((Below.refl _ _).alloc (Nat.le_refl _) _) 1
              have HSrc : Hid (Src Try.prog 1 22 (.slice a2 n cap2) n (u8s (seg bs p n)) ((w.alloc (.cells #[.slice none 0 0, .slice none 0 0, .int .i64 0, .int .i64 0] 39)).alloc (.cells #[.slice none 0 0, .slice none 0 0] 25)).drew) := by
                have := (hbs2.later hbB).src (P := Try.prog) Try.underlying22
                rw [hlenS] at this
                exact this
              have HRY : Hid (Ry w ((w.alloc (.cells #[.slice none 0 0, .slice none 0 0, .int .i64 0, .int .i64 0] 39)).alloc (.cells #[.slice none 0 0, .slice none 0 0] 25)) (.slice none 0 0) (.slice none 0 0)) := hry
              have HRYd : Hid (Ry w ((w.alloc (.cells #[.slice none 0 0, .slice none 0 0, .int .i64 0, .int .i64 0] 39)).alloc (.cells #[.slice none 0 0, .slice none 0 0] 25)).drew (.slice none 0 0) (.slice none 0 0)) := hry.later (Below.drewN (Below.refl _ _) 1)
              have tb := hry.box.cell
              have tbm := hry.box.melt
              have HLS : Hid ((seg bs p n).length = n) := hlenS
              have hzB := HRYd.out.size
              have hw1 : IntKind.i64.wrap ((p4 : Int) + 4 + (n : Int)) = (p4 : Int) + 4 + (n : Int) := by simp [IntKind.wrap, IntKind.signed, IntKind.bits]; omega
              clear hbs2 hry hbB hlenS
              go_wp2_with fail
              go_region_law (refine step_append_at rfl (.tmp 94) (.tmp 100) 22 22 rfl (w.heap.size + 2) 5 (.int .u8 0) 1 Try.underlying22 Try.infoU8 rfl (by simp [Act.eval, Act.put]) (by simp [Act.eval, Act.put]) (OwnV.nil _ _ _) HSrc.out (by simp [maxLen]; omega) (by simp; omega) hzB ?_; intro v8 w8 ho8 hg8; have hr8 := HRYd.out.later (grown8 hg8 hzB (fun k hk => by simp [Value.ownBlock] at hk)); have hO8 : Own w8 (w.heap.size + 2) 5 v8 (seg bs p n) := OwnV.own (by simpa using ho8); obtain ⟨va, vc, hv8, -, -⟩ := hO8.shape; rw [HLS.out] at hv8; subst hv8; have tb8 := hr8.box.cell; have tbm8 := hr8.box.melt; have H8 : Hid (Ry w (w8.setCell ⟨w.heap.size + 1, 0, none⟩ (.slice va n vc)) (.slice va n vc) (.slice none 0 0)) := hr8.setC _; have HO8 : Hid (Own (w8.setCell ⟨w.heap.size + 1, 0, none⟩ (.slice va n vc)) (w.heap.size + 2) 5 (.slice va n vc) (seg bs p n)) := OwnV.own (hO8.v.of_block (fun k hk _ => Below.heap_setCell _ _ _ _ (show k ≠ w.heap.size + 1 by have := (hO8.block k hk).1; omega))); clear ho8 hg8 hr8 hO8)
              all_goals have tr := H8.out.res.cell
              all_goals have trm := H8.out.res.melt
              all_goals have tb9 := H8.out.box.cell
              all_goals obtain ⟨q1, q2⟩ := H8.out.done (.slice va n vc) (.slice none 0 0) ((p4 : Int) + 4 + (n : Int)) 0
              all_goals have hBf : Bs (resW (w8.setCell ⟨w.heap.size + 1, 0, none⟩ (.slice va n vc)) w.heap.size (.slice va n vc) (.slice none 0 0) ((p4 : Int) + 4 + (n : Int)) 0) (.slice va n vc) (seg bs p n) := resW_bs HO8.out.bs (fun _ k hk => by have := (HO8.out.block k hk).1; omega)
              all_goals unfold resW at q1 q2 hBf
              all_goals have HQ2 : Hid (Below w.heap.size w (((((w8.setCell ⟨w.heap.size + 1, 0, none⟩ (.slice va n vc)).setCell ⟨w.heap.size, 0, none⟩ (.slice va n vc)).setCell ⟨w.heap.size, 1, none⟩ (.slice none 0 0)).setCell ⟨w.heap.size, 2, none⟩ (.int .i64 ((p4 : Int) + 4 + (n : Int)))).setCell ⟨w.heap.size, 3, none⟩ (.int .i64 (0)))) := q2
              all_goals have HBf : Hid (Bs (((((w8.setCell ⟨w.heap.size + 1, 0, none⟩ (.slice va n vc)).setCell ⟨w.heap.size, 0, none⟩ (.slice va n vc)).setCell ⟨w.heap.size, 1, none⟩ (.slice none 0 0)).setCell ⟨w.heap.size, 2, none⟩ (.int .i64 ((p4 : Int) + 4 + (n : Int)))).setCell ⟨w.heap.size, 3, none⟩ (.int .i64 (0))) (.slice va n vc) (seg bs p n)) := hBf
              all_goals clear q2 hBf tb tbm tb8 tbm8
              all_goals go_wp2
              all_goals exact bodyPost_ret (v := .agg #[.slice va n vc, .slice none 0 0, .int .i64 ((p4 : Int) + 4 + (n : Int)), .int .i64 0]) (by simp [results, Try.results16, go_sem, q1]) rfl ⟨fun h => absurd (by rw [HOK.out.1]) h, fun _ => ⟨_, _, by rw [HOK.out.1, HTOT.out], by rw [HOK.out.2.1]; exact HBf.out, by rw [HOK.out.2.2]; exact Ws.nil _⟩, HQ2.out⟩
        · have HE : Hid ((rdS (bs.drop a) (decide (a % 4 = 0))).2 = 2) := by
            show _ = _
            have e5' := co_form (bs := bs.drop a) (a := 8) hok
            rw [rd_no5 (by rw [HF.out]; decide) (by rw [e5, e5']; decide), e5, e5']
          clear e5 eC
          by_cases hn1 : n < 1
          · have i1 : (n : Int) < 1 := by omega
            clear hok
            go_wp2
            exact bodyPost_ret (v := .agg #[.slice none 0 0, .slice none 0 0, .int .i64 0, .int .i64 2]) (by simp [results, Try.results16, go_sem]) rfl (GotR8.err HE.out (by decide) rfl (HB0.out _))
          · have i1 : (1 : Int) ≤ (n : Int) := by omega
            have i2 : (65535 : Int) < (n : Int) := by omega
            clear hok
            go_wp2
            exact bodyPost_ret (v := .agg #[.slice none 0 0, .slice none 0 0, .int .i64 0, .int .i64 2]) (by simp [results, Try.results16, go_sem]) rfl (GotR8.err HE.out (by decide) rfl (HB0.out _))

set_option maxHeartbeats 2000000 in
set_option maxRecDepth 100000 in
theorem refRead_11 {w : World} {b off cap a : Nat} {bs : List UInt8} (hcell : ∀ i (h : i < bs.length), w.cell? ⟨b, off + i, none⟩ = some (.int .u8 (bs[i].toNat : Int))) (hbl : b < w.heap.size) (hcap : bs.length ≤ cap) (hcm : cap ≤ maxLen) (hl : bs.length ≤ 2000) (ha : a < bs.length) (hf : boF (bs.drop a) = 11) (ha4 : a % 4 = 0) :
    Calls Try.prog 16 #[.slice (some ⟨b, off, none⟩) bs.length cap, .int .i64 (a : Int)] w fun e w' => GotR8 w w' bs a e := by
  have hdl : (bs.drop a).length + a = bs.length := by simp; omega
  have HCELL : Hid (∀ W, Below w.heap.size w W → ∀ i (h : i < bs.length), W.cell? ⟨b, off + i, none⟩ = some (.int .u8 (bs[i].toNat : Int))) := fun W hW i hi => by rw [hW.cell (p := ⟨b, off + i, none⟩) hbl]; exact hcell i hi
  have HV : Hid (∀ W, Below w.heap.size w W → Bs W (.slice (some ⟨b, off, none⟩) bs.length cap) bs) := fun W hW => Bs.later ⟨_, _, rfl, hcap, hcm, fun _ => ⟨b, off, rfl, hbl, hcell⟩⟩ hW
  have hbA : Below w.heap.size w (w.alloc (.cells #[.slice none 0 0, .slice none 0 0, .int .i64 0, .int .i64 0] 39)) := (Below.refl _ _).alloc (Nat.le_refl _) _
  have HBA : Hid (Below w.heap.size w (w.alloc (.cells #[.slice none 0 0, .slice none 0 0, .int .i64 0, .int .i64 0] 39))) := hbA
  have HB0 : Hid (∀ C, Below w.heap.size w (w.alloc (.cells C 39))) := fun C => (Below.refl _ _).alloc (Nat.le_refl _) _
  have hF := (bo_first (bs := bs.drop a) (by omega)).2
  have hx : bs[a].toNat = 11 := by rw [← hf, hF]; simp
  have hca : (w.alloc (.cells #[.slice none 0 0, .slice none 0 0, .int .i64 0, .int .i64 0] 39)).cell? ⟨b, off + a, none⟩ = some (.int .u8 11) := by rw [hbA.cell (p := ⟨b, off + a, none⟩) hbl, hcell a ha, hx]; rfl
  have HSeg : Hid (∀ j n, seg bs (a + j) n = seg (bs.drop a) j n) := fun j n => by unfold seg; rw [List.drop_drop]
  have hal : decide (a % 4 = 0) = true := decide_eq_true ha4
  have h2 := bo_good (bs := bs.drop a) (al := decide (a % 4 = 0)) (by omega) (by omega) hal
  have HF : Hid (boF (bs.drop a) = 11) := hf
  have HB3 : Hid (bo3 (bs.drop a) (decide (a % 4 = 0)) = zeS (bs.drop a) (1, 0) 3) := by show _ = _; unfold bo3; rw [h2]
  have HNo3 : Hid (∀ i q e, i ≤ 3 → zeS (bs.drop a) (1, 0) i = (q, e) → e ≠ 0 → (rdS (bs.drop a) (decide (a % 4 = 0))).2 = e) := fun i q e hi hz he => by
    have h3 : bo3 (bs.drop a) (decide (a % 4 = 0)) = (q, e) := by rw [HB3.out, zeS_stop (i := i) (by rw [hz]; exact he) _ hi, hz]
    rw [rd_no3 (by rw [hf]; decide) (by rw [h3]; exact he), h3]
  have HD : Hid (∀ j (h : j < (bs.drop a).length), (w.alloc (.cells #[.slice none 0 0, .slice none 0 0, .int .i64 0, .int .i64 0] 39)).cell? ⟨b, off + (a + j), none⟩ = some (.int .u8 ((bs.drop a)[j].toNat : Int))) := fun j hj => by
    rw [hbA.cell (p := ⟨b, off + (a + j), none⟩) hbl, hcell (a + j) (by omega)]
    simp
  have ia1 : (0 : Int) ≤ (a : Int) := by omega
  have ia2 : (a : Int) < (bs.length : Int) := by omega
  have ia3 : ((a : Int) == (bs.length : Int)) = false := by rw [beq_eq_false_iff_ne]; omega
  have ia4 : ((a : Int) % 4 != 0) = false := by rw [bne_eq_false_iff_eq]; omega
  clear hcell hF hx hf hal h2 ha4 hbA
  go_enter Try.func16, Try.ntmps16
  go_wp2
  go_loopw [1, 8] (fun u z wr => wr = (w.alloc (.cells #[.slice none 0 0, .slice none 0 0, .int .i64 0, .int .i64 0] 39)) ∧ ∃ i : Nat, i ≤ 3 ∧ z = .int .i64 (i : Int) ∧ u = .int .i64 ((a + 1 + i : Nat) : Int) ∧ zeS (bs.drop a) (1, 0) i = (1 + i, 0)) (fun _ z _ => 3 - (intOf z).toNat)
  case atStart => exact ⟨rfl, 0, Nat.zero_le _, rfl, rfl, rfl⟩
  case round =>
    obtain ⟨hwr, i, hi, rfl, rfl, hz⟩ := hrel
    subst wr
    clear hca ia3 ia4
    obtain ⟨p4, hp4⟩ : ∃ q, q = a + 1 + i := ⟨_, rfl⟩
    have HP4 : Hid (p4 = a + (1 + i)) := by show _ = _; omega
    rw [← hp4]
    have hp4l : p4 ≤ 2004 := by omega
    clear hp4
    by_cases hi3 : i < 3
    · by_cases hsh : bs.length ≤ p4
      · have hsh' : (bs.length : Int) ≤ (p4 : Int) := by omega
        have HE : Hid ((rdS (bs.drop a) (decide (a % 4 = 0))).2 = 1) := HNo3.out (i + 1) _ 1 (by omega) (ze_short hz (by have := HP4.out; omega)) (by decide)
        clear hz
        go_wp2
        exact bodyPost_ret (v := .agg #[.slice none 0 0, .slice none 0 0, .int .i64 0, .int .i64 1]) (by simp [results, Try.results16, go_sem]) rfl (GotR8.err HE.out (by decide) rfl (HB0.out _))
      · have hsh' : (p4 : Int) < (bs.length : Int) := by omega
        have hlt : 1 + i < (bs.drop a).length := by have := HP4.out; omega
        have hcx : (w.alloc (.cells #[.slice none 0 0, .slice none 0 0, .int .i64 0, .int .i64 0] 39)).cell? ⟨b, off + p4, none⟩ = some (.int .u8 ((bs.drop a)[1 + i].toNat : Int)) := by rw [HP4.out]; exact HD.out (1 + i) hlt
        by_cases hx : (bs.drop a)[1 + i].toNat = 0
        · have HZ : Hid (zeS (bs.drop a) (1, 0) (i + 1) = (1 + (i + 1), 0)) := ze_good hz hlt hx
          have hx' : (((bs.drop a)[1 + i].toNat : Int) != 0) = false := by rw [bne_eq_false_iff_eq]; omega
          clear hz hx
          generalize (bs.drop a)[1 + i].toNat = x at *
          go_wp2
          go_roundw
          case rel => exact ⟨trivial, i + 1, by omega, by go_num, by have := HP4.out; go_num, HZ.out⟩
          case measure => simp [intOf]; omega
        · have HE : Hid ((rdS (bs.drop a) (decide (a % 4 = 0))).2 = 2) := HNo3.out (i + 1) _ 2 (by omega) (ze_bad hz hlt hx) (by decide)
          have hx' : (((bs.drop a)[1 + i].toNat : Int) != 0) = true := by rw [bne_iff_ne]; omega
          clear hz hx
          generalize (bs.drop a)[1 + i].toNat = x at *
          go_wp2
          exact bodyPost_ret (v := .agg #[.slice none 0 0, .slice none 0 0, .int .i64 0, .int .i64 2]) (by simp [results, Try.results16, go_sem]) rfl (GotR8.err HE.out (by decide) rfl (HB0.out _))
    · have hi3' : i = 3 := by omega
      subst hi3'
      have h3 : bo3 (bs.drop a) (decide (a % 4 = 0)) = (4, 0) := by rw [HB3.out, hz]
      clear hz
      by_cases hsh : (bs.drop a).length < 8
      · have HE : Hid ((rdS (bs.drop a) (decide (a % 4 = 0))).2 = 1) := rd_len (by rw [HF.out]; decide) h3 hsh
        have hsh' : (bs.length : Int) - (p4 : Int) < 4 := by have := HP4.out; omega
        clear h3
        go_wp2
        exact bodyPost_ret (v := .agg #[.slice none 0 0, .slice none 0 0, .int .i64 0, .int .i64 1]) (by simp [results, Try.results16, go_sem]) rfl (GotR8.err HE.out (by decide) rfl (HB0.out _))
      · obtain ⟨-, -, e5, eC⟩ := bo_len h3 (by omega)
        have hsh' : (4 : Int) ≤ (bs.length : Int) - (p4 : Int) := by have := HP4.out; omega
        obtain ⟨n, hn⟩ : ∃ n, n = leN (seg (bs.drop a) 4 4) := ⟨_, rfl⟩
        rw [← hn] at e5 eC
        have hR := refNum_any (HV.out (w.alloc (.cells #[.slice none 0 0, .slice none 0 0, .int .i64 0, .int .i64 0] 39)) HBA.out) p4 4 (by omega) (by omega) (by have := HP4.out; omega)
        have hsg : leN (seg bs p4 4) = n := by rw [hn, HP4.out, HSeg.out]
        rw [hsg] at hR
        have HR : Hid (Calls Try.prog 28 #[.slice (some ⟨b, off, none⟩) bs.length cap, .int .i64 (p4 : Int), .int .i64 4] (w.alloc (.cells #[.slice none 0 0, .slice none 0 0, .int .i64 0, .int .i64 0] 39)) fun e w' => e = .returned (.int .u64 (n : Int)) ∧ w' = (w.alloc (.cells #[.slice none 0 0, .slice none 0 0, .int .i64 0, .int .i64 0] 39))) := hR
        have hnl : n < 4294967296 := by rw [hn]; exact seg_lt88 _ _ _ (by omega)
        clear hn hR hsg h3
        go_wp2_with fail
        refine Calls.mono HR.out ?_
        rintro e wz ⟨rfl, hz⟩
        subst wz
        clear HR
        have hbA := HBA.out
        by_cases hok : 1 ≤ n ∧ n ≤ 65535
        · have i1 : (1 : Int) ≤ (n : Int) := by omega
          have i2 : (n : Int) ≤ 65535 := by omega
          obtain ⟨p, hp⟩ : ∃ p, p = p4 + 4 := ⟨_, rfl⟩
          have HPp : Hid (p = a + 8) := by show _ = _; have := HP4.out; omega
          have HPN : Hid (((p : Nat) : Int) = (p4 : Int) + 4) := by show _ = _; omega
          by_cases hshn : bs.length < p + n
          · have HE : Hid ((rdS (bs.drop a) (decide (a % 4 = 0))).2 = 1) := by
              show _ = _
              have e5' := co_short (bs := bs.drop a) (a := 8) hok (by have := HPp.out; omega)
              rw [rd_no5 (by rw [HF.out]; decide) (by rw [e5, e5']; decide), e5, e5']
            have i3 : (bs.length : Int) - ((p4 : Int) + 4) < (n : Int) := by omega
            clear e5 eC hok hp
            go_wp2
            exact bodyPost_ret (v := .agg #[.slice none 0 0, .slice none 0 0, .int .i64 0, .int .i64 1]) (by simp [results, Try.results16, go_sem]) rfl (GotR8.err HE.out (by decide) rfl (HB0.out _))
          · have i3 : (n : Int) ≤ (bs.length : Int) - ((p4 : Int) + 4) := by omega
            have hpn : p + n ≤ bs.length := by omega
            obtain ⟨g1, g2⟩ := co_good (bs := bs.drop a) (a := 8) (n := n) hok (by have := HPp.out; omega)
            rw [g1] at e5
            rw [g2] at eC
            have hds : seg (bs.drop a) 8 n = seg bs p n := by rw [HPp.out, HSeg.out]
            have hdl8 : 8 + n ≤ (bs.drop a).length := by have := HPp.out; omega
            have HR11 : Hid (((csS (bs.drop a) (8 + n, 0)).2 ≠ 0 → (rdS (bs.drop a) (decide (a % 4 = 0))).2 = (csS (bs.drop a) (8 + n, 0)).2) ∧ ((csS (bs.drop a) (8 + n, 0)).2 = 0 → rdS (bs.drop a) (decide (a % 4 = 0)) = csS (bs.drop a) (8 + n, 0) ∧ rdC (bs.drop a) (decide (a % 4 = 0)) = seg bs p n ∧ rdK (bs.drop a) (decide (a % 4 = 0)) = csL (bs.drop a) (8 + n, 0))) := by
              have := rd_big11 HF.out e5 eC hdl8
              rw [hds] at this
              exact this
            have HCL : Hid (∀ W va vc, Below w.heap.size w W → Calls Try.prog 29 #[.slice (some ⟨b, off, none⟩) bs.length cap, .int .i64 (a : Int), .int .i64 ((p4 : Int) + 4 + (n : Int)), .agg #[.slice va n vc, .slice none 0 0]] W fun e w' => GotL W w' (bs.drop a) a (8 + n) (.slice va n vc) e) := fun W va vc hW => by
              have h := refClauses_any (w := W) (b := b) (off := off) (cap := cap) (f := a) (r := 8 + n) (ca := va) (cl := n) (cc := vc) (bs := bs) (HCELL.out W hW) (by have := hW.size; omega) hcap hcm hl (by omega)
              rw [show ((a + (8 + n) : Nat) : Int) = (p4 : Int) + 4 + (n : Int) by have := HP4.out; omega] at h
              exact h
            clear e5 eC hok hp g1 g2
            have hlenS : (seg bs p n).length = n := seg_len8 bs p n hpn
            obtain ⟨a2, cap2, hsl, hbs2, -⟩ := slice_bs (P := Try.prog) (HV.out (w.alloc (.cells #[.slice none 0 0, .slice none 0 0, .int .i64 0, .int .i64 0] 39)) hbA) p n hpn 22 5 Try.underlying22 rfl
            rw [HPN.out] at hsl
            have hry := Ry.mk0 w (.slice none 0 0) (.slice none 0 0)
            have hbB : Below (w.alloc (.cells #[.slice none 0 0, .slice none 0 0, .int .i64 0, .int .i64 0] 39)).heap.size (w.alloc (.cells #[.slice none 0 0, .slice none 0 0, .int .i64 0, .int .i64 0] 39)) ((w.alloc (.cells #[.slice none 0 0, .slice none 0 0, .int .i64 0, .int .i64 0] 39)).alloc (.cells #[.slice none 0 0, .slice none 0 0] 25)).drew := Below.drewN ((Below.refl _ _).alloc (Nat.le_refl _) _) 1
            have HSrc : Hid (Src Try.prog 1 22 (.slice a2 n cap2) n (u8s (seg bs p n)) ((w.alloc (.cells #[.slice none 0 0, .slice none 0 0, .int .i64 0, .int .i64 0] 39)).alloc (.cells #[.slice none 0 0, .slice none 0 0] 25)).drew) := by
              have := (hbs2.later hbB).src (P := Try.prog) Try.underlying22
              rw [hlenS] at this
              exact this
            have HRY : Hid (Ry w ((w.alloc (.cells #[.slice none 0 0, .slice none 0 0, .int .i64 0, .int .i64 0] 39)).alloc (.cells #[.slice none 0 0, .slice none 0 0] 25)) (.slice none 0 0) (.slice none 0 0)) := hry
            have HRYd : Hid (Ry w ((w.alloc (.cells #[.slice none 0 0, .slice none 0 0, .int .i64 0, .int .i64 0] 39)).alloc (.cells #[.slice none 0 0, .slice none 0 0] 25)).drew (.slice none 0 0) (.slice none 0 0)) := hry.later (Below.drewN (Below.refl _ _) 1)
            have tb := hry.box.cell
            have tbm := hry.box.melt
            have HLS : Hid ((seg bs p n).length = n) := hlenS
            have hzB := HRYd.out.size
            have hw1 : IntKind.i64.wrap ((p4 : Int) + 4 + (n : Int)) = (p4 : Int) + 4 + (n : Int) := by simp [IntKind.wrap, IntKind.signed, IntKind.bits]; omega
            clear hbs2 hry hbB hlenS
            go_wp2_with fail
            go_region_law (refine step_append_at rfl (.tmp 94) (.tmp 100) 22 22 rfl (w.heap.size + 2) 5 (.int .u8 0) 1 Try.underlying22 Try.infoU8 rfl (by simp [Act.eval, Act.put]) (by simp [Act.eval, Act.put]) (OwnV.nil _ _ _) HSrc.out (by simp [maxLen]; omega) (by simp; omega) hzB ?_; intro v8 w8 ho8 hg8; have hr8 := HRYd.out.later (grown8 hg8 hzB (fun k hk => by simp [Value.ownBlock] at hk)); have hO8 : Own w8 (w.heap.size + 2) 5 v8 (seg bs p n) := OwnV.own (by simpa using ho8); obtain ⟨va, vc, hv8, -, -⟩ := hO8.shape; rw [HLS.out] at hv8; subst hv8; have tb8 := hr8.box.cell; have tbm8 := hr8.box.melt; have H8 : Hid (Ry w (w8.setCell ⟨w.heap.size + 1, 0, none⟩ (.slice va n vc)) (.slice va n vc) (.slice none 0 0)) := hr8.setC _; have HO8 : Hid (Own (w8.setCell ⟨w.heap.size + 1, 0, none⟩ (.slice va n vc)) (w.heap.size + 2) 5 (.slice va n vc) (seg bs p n)) := OwnV.own (hO8.v.of_block (fun k hk _ => Below.heap_setCell _ _ _ _ (show k ≠ w.heap.size + 1 by have := (hO8.block k hk).1; omega))); clear ho8 hg8 hr8 hO8)
            all_goals have tr := H8.out.res.cell
            all_goals have trm := H8.out.res.melt
            all_goals have tb9 := H8.out.box.cell
            all_goals have HCL9 : Hid (Calls Try.prog 29 #[.slice (some ⟨b, off, none⟩) bs.length cap, .int .i64 (a : Int), .int .i64 ((p4 : Int) + 4 + (n : Int)), .agg #[.slice va n vc, .slice none 0 0]] (w8.setCell ⟨w.heap.size + 1, 0, none⟩ (.slice va n vc)) fun e w' => GotL (w8.setCell ⟨w.heap.size + 1, 0, none⟩ (.slice va n vc)) w' (bs.drop a) a (8 + n) (.slice va n vc) e) := HCL.out _ va vc H8.out.bel
            all_goals clear tb tbm tb8 tbm8
            all_goals go_wp2_with fail
            all_goals refine Calls.mono HCL9.out ?_
            all_goals rintro e w10 ⟨gno, gyes, gb⟩
            all_goals clear tb9 tr trm
            all_goals have h10 := H8.out.later (gb.mono H8.out.size)
            all_goals have tr := h10.res.cell
            all_goals have trm := h10.res.melt
            all_goals have HO10 : Hid (Own w10 (w.heap.size + 2) 5 (.slice va n vc) (seg bs p n)) := HO8.out.later gb
            all_goals by_cases hcs : (csS (bs.drop a) (8 + n, 0)).2 = 0
            all_goals first
              | (obtain ⟨ka, kc, rfl, gw, gfr⟩ := gyes hcs
                 obtain ⟨s1, s2, s3⟩ := HR11.out.2 hcs
                 obtain ⟨kl, hkl⟩ : ∃ k, k = (csL (bs.drop a) (8 + n, 0)).length := ⟨_, rfl⟩
                 obtain ⟨to_, hto⟩ : ∃ k, k = a + (csS (bs.drop a) (8 + n, 0)).1 := ⟨_, rfl⟩
                 rw [← hkl] at gw gfr ⊢
                 rw [← hto]
                 obtain ⟨q1, q2⟩ := h10.done (.slice va n vc) (.slice ka kl kc) (to_ : Int) 0
                 have hsz9 := H8.out.size
                 have hBf : Bs (resW w10 w.heap.size (.slice va n vc) (.slice ka kl kc) (to_ : Int) 0) (.slice va n vc) (seg bs p n) := resW_bs HO10.out.bs (fun _ k hk => by have := (HO10.out.block k hk).1; omega)
                 have hWf : Ws (resW w10 w.heap.size (.slice va n vc) (.slice ka kl kc) (to_ : Int) 0) (.slice ka kl kc) (csL (bs.drop a) (8 + n, 0)) := resW_ws gw (fun k hk => by have := gfr k hk; omega)
                 have HFIN : Hid (GotR8 w (resW w10 w.heap.size (.slice va n vc) (.slice ka kl kc) (to_ : Int) 0) bs a (.returned (.agg #[.slice va n vc, .slice ka kl kc, .int .i64 (to_ : Int), .int .i64 0]))) := ⟨fun h => absurd (by rw [s1]; exact hcs) h, fun _ => ⟨_, _, by rw [s1, hto], by rw [s2]; exact hBf, by rw [s3]; exact hWf⟩, q2⟩
                 unfold resW at q1 HFIN
                 clear q2 hBf hWf gw gfr gno gyes gb h10 hcs s1 s2 s3 hkl hto hsz9
                 go_wp2
                 exact bodyPost_ret (v := .agg #[.slice va n vc, .slice ka kl kc, .int .i64 (to_ : Int), .int .i64 0]) (by simp [results, Try.results16, go_sem, q1]) rfl HFIN.out)
              | (obtain rfl := gno hcs
                 have hE := HR11.out.1 hcs
                 obtain ⟨er, her⟩ : ∃ k, k = (csS (bs.drop a) (8 + n, 0)).2 := ⟨_, rfl⟩
                 rw [← her] at hcs hE ⊢
                 obtain ⟨q1, q2⟩ := h10.done (.slice none 0 0) (.slice none 0 0) 0 er
                 have HFIN : Hid (GotR8 w (resW w10 w.heap.size (.slice none 0 0) (.slice none 0 0) 0 er) bs a (.returned (.agg #[.slice none 0 0, .slice none 0 0, .int .i64 0, .int .i64 er]))) := GotR8.err hE hcs rfl q2
                 unfold resW at q1 HFIN
                 clear q2 gno gyes gb h10 hcs hE her
                 go_wp2
                 exact bodyPost_ret (v := .agg #[.slice none 0 0, .slice none 0 0, .int .i64 0, .int .i64 er]) (by simp [results, Try.results16, go_sem, q1]) rfl HFIN.out)
        · have HE : Hid ((rdS (bs.drop a) (decide (a % 4 = 0))).2 = 2) := by
            show _ = _
            have e5' := co_form (bs := bs.drop a) (a := 8) hok
            rw [rd_no5 (by rw [HF.out]; decide) (by rw [e5, e5']; decide), e5, e5']
          clear e5 eC
          by_cases hn1 : n < 1
          · have i1 : (n : Int) < 1 := by omega
            clear hok
            go_wp2
            exact bodyPost_ret (v := .agg #[.slice none 0 0, .slice none 0 0, .int .i64 0, .int .i64 2]) (by simp [results, Try.results16, go_sem]) rfl (GotR8.err HE.out (by decide) rfl (HB0.out _))
          · have i1 : (1 : Int) ≤ (n : Int) := by omega
            have i2 : (65535 : Int) < (n : Int) := by omega
            clear hok
            go_wp2
            exact bodyPost_ret (v := .agg #[.slice none 0 0, .slice none 0 0, .int .i64 0, .int .i64 2]) (by simp [results, Try.results16, go_sem]) rfl (GotR8.err HE.out (by decide) rfl (HB0.out _))

theorem refRead_at {w : World} {v : Value} {bs : List UInt8} (hv : Bs w v bs) (hl : bs.length ≤ 2000) (a : Nat) (ha : a ≤ bs.length) :
    Calls Try.prog 16 #[v, .int .i64 (a : Int)] w fun e w' => GotR8 w w' bs a e := by
  have hlen := hv.len
  obtain ⟨xa, cx, rfl, h1, h2, h3⟩ := hv
  by_cases hae : a = bs.length
  · subst hae
    refine (refRead_end xa bs.length cx hlen).mono ?_
    rintro e w' ⟨rfl, h⟩
    refine GotR8.err ?_ (by decide) rfl h
    rw [List.drop_length]
    exact rd_none _
  · have hlt : a < bs.length := by omega
    obtain ⟨b, off, rfl, hb, hc⟩ := h3 (by intro e; rw [e] at hlt; simp at hlt)
    by_cases hf : boF (bs.drop a) % 4 = 2
    · exact refRead_small hc hb h1 h2 hl hlt hf
    · by_cases hg : (boF (bs.drop a) = 3 ∨ boF (bs.drop a) = 11) ∧ a % 4 = 0
      · rcases hg.1 with h | h
        · exact refRead_3 hc hb h1 h2 hl hlt h hg.2
        · exact refRead_11 hc hb h1 h2 hl hlt h hg.2
      · exact refRead_bad hc hb h1 h2 hl hlt hf (by omega)

end Go.Proofs.Ytfgjlljbpcombaa
