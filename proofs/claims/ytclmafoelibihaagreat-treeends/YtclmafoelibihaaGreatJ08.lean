/- Texts joined: Extend, Reader, Arith, Num, Packed, Pack, Same, Wakes. -/
import Derived.Test.YtclmafoelibihaaGreatRows
import Derived.Test.YtclmafoelibihaaGreatJ01
import Derived.Deep.QuietTactic
import Derived.BigQuiet
import Derived.WalkKit
import Derived.Laws.BitsAllLaws
import Derived.Test.YtclmafoelibihaaGreatJ02
import Derived.Deep.RegionWith
/- extend: a copy of a slice of bytes with room behind it. -/
namespace Go.Proofs.YtclmafoelibihaaGreat
set_option linter.unusedVariables false
set_option linter.unusedSimpArgs false
open Go.RowKit

/-- The bytes, and n zeros behind them. -/
def ext (bs : List UInt8) (n : Nat) : List UInt8 := bs ++ List.replicate n 0
theorem ext_length (bs : List UInt8) (n : Nat) : (ext bs n).length = bs.length + n := by simp [ext]
theorem ext_zero (bs : List UInt8) : ext bs 0 = bs := by simp [ext]

theorem made_u8 (n : Nat) : madeCells (Value.int .u8 0).cells n = (u8s (List.replicate n 0)).toArray := by
  apply Array.ext
  · simp [madeCells, u8s]
  · intro i h1 h2
    simp [madeCells, u8s, Value.cells, Nat.mod_one]

theorem setRow_alloc_new (w : World) (X Y : Array Value) (e : TypeId) : (w.alloc (.cells X e)).setRow w.heap.size Y = w.alloc (.cells Y e) := by
  show ({ w with heap := (w.heap.push (.cells X e)).modify w.heap.size _ } : World) = { w with heap := w.heap.push (.cells Y e) }
  congr 1
  apply Array.ext
  · simp
  · intro k h1 h2
    simp only [Array.size_modify, Array.size_push] at h1 h2
    rw [Array.getElem_modify]
    by_cases hk : k = w.heap.size
    · subst hk; simp
    · rw [if_neg (by omega), Array.getElem_push_lt (by omega), Array.getElem_push_lt (by omega)]

theorem run_copy_new {P : Program} (w : World) (dT sT ty e : TypeId) (hu : P.underlying dT = some (.slice e)) (hs : (P.info? e).map (·.size) = some 1) {v : Value} {bs : List UInt8} (hv : Bs w v bs) (n : Nat) :
    (Builtin.copy_ #[dT, sT] ty #[.slice (some ⟨w.heap.size, 0, none⟩) (bs.length + n) (bs.length + n), v]).run P (w.alloc (.cells (u8s (List.replicate (bs.length + n) 0)).toArray e)) =
      .ok (goInt bs.length) (w.alloc (.cells (u8s (ext bs n)).toArray e)) := by
  obtain ⟨a, cap, rfl, h1, h2, h3⟩ := hv
  by_cases hb : bs = []
  · subst hb
    have := run_copy_none (P := P) (w.alloc (.cells (u8s (List.replicate (0 + n) 0)).toArray e)) dT sT ty e (some ⟨w.heap.size, 0, none⟩) a (0 + n) (0 + n) 0 cap hu hs (by simp)
    simpa [ext] using this
  · obtain ⟨b, off, rfl, hlt, hc⟩ := h3 hb
    have hg : (w.alloc (.cells (u8s (List.replicate (bs.length + n) 0)).toArray e)).heap[w.heap.size]? = some (.cells (u8s (List.replicate (bs.length + n) 0)).toArray e (0, 0)) := heap_alloc_new _ _
    have := run_copy_row P (w.alloc (.cells (u8s (List.replicate (bs.length + n) 0)).toArray e)) dT sT ty e w.heap.size 0 (bs.length + n) (bs.length + n) ⟨b, off, none⟩ bs.length cap (u8s (List.replicate (bs.length + n) 0)).toArray e (u8s bs) hu hs hg
      (by simp [u8s_length]) (fun j v hj => by
        have hjl : j < bs.length := by
          rcases Nat.lt_or_ge j bs.length with h | h
          · exact h
          · rw [List.getElem?_eq_none (by simpa [u8s] using h)] at hj; simp at hj
        rw [u8s_get bs j hjl] at hj
        have hplain : (⟨b, off, none⟩ : Addr).add j = ⟨b, off + j, none⟩ := by unfold Addr.add; split <;> simp_all
        rw [hplain, World.cell?_alloc_past _ _ _ hlt, hc j hjl]; exact hj)
      (by simp [u8s_length]) (fun v hv => by simp [u8s] at hv; obtain ⟨x, _, rfl⟩ := hv; rfl)
    rw [u8s_length] at this
    rw [this]
    congr 1
    rw [setRow_alloc_new]
    congr 2
    simp [ext, u8s_append, u8s, List.drop_replicate]

theorem Tryz.infoU8 : (Tryz.prog.info? 5).map (fun i => (i.zero, i.size, i.bytes)) = some (some (.int .u8 0), 1, 1) := by kernel_rfl

theorem run_make_u8 (w : World) (n : Nat) (hn : n ≤ 281474976710656) :
    (Instr.makeSlice 114 (.int .i64 (n : Int)) (.int .i64 (n : Int))).run Tryz.prog w = .ok (.slice (some ⟨w.heap.size, 0, none⟩) n n) (w.alloc (.cells (u8s (List.replicate n 0)).toArray 5)) := by
  obtain ⟨i, hi, hz0, hz1, hz2⟩ := info_parts Tryz.infoU8
  have := run_make (P := Tryz.prog) w 114 5 i (.int .u8 0) Tryz.underlying114 hi hz0 .i64 .i64 (n : Int) (n : Int) (by omega) (by omega) (by rw [hz2]; omega) (by omega)
  rw [this, hz1]
  simp [made_u8]

theorem sizeU8 : (Tryz.prog.info? 5).map (·.size) = some 1 := by
  obtain ⟨i, hi, hz0, hz1, hz2⟩ := info_parts Tryz.infoU8
  simp [hi, hz1]

set_option maxHeartbeats 400000 in
theorem extend_any {v : Value} {bs : List UInt8} {w : World} (hv : Bs w v bs) (n : Nat) (hn : bs.length + n ≤ 281474976710656) :
    Calls Tryz.prog 192 #[v, .int .i64 (n : Int)] w fun e w' => e = .returned (.slice (some ⟨w.heap.size, 0, none⟩) (bs.length + n) (bs.length + n)) ∧
      w' = w.alloc (.cells (u8s (ext bs n)).toArray 5) := by
  have hmk := fun w => run_make_u8 w (bs.length + n) hn
  have hcp := run_copy_new (P := Tryz.prog) w 114 114 3 5 Tryz.underlying114 sizeU8 hv n
  obtain ⟨a, cap, rfl, h1, h2, h3⟩ := hv
  clear h3
  generalize ext bs n = r at *
  rw [show ((bs.length + n : Nat) : Int) = (bs.length : Int) + n from by omega] at hmk
  go_enter Tryz.func192, Tryz.ntmps192
  go_wp2
  go_ret
  exact ⟨rfl, rfl⟩

end Go.Proofs.YtclmafoelibihaaGreat

/- The reader of layer 1: what New makes, and At, Left, Skip, Done of one that is there. -/
namespace Go.Proofs.YtclmafoelibihaaGreat
set_option linter.unusedVariables false
set_option linter.unusedSimpArgs false
open Go.RowKit

/-- Nothing that was there has turned, but for one block. -/
structure Only (rb : Nat) (w w' : World) : Prop where
  os : w'.os = w.os
  tape : w'.tape = w.tape
  output : w'.output = w.output
  size : w.heap.size ≤ w'.heap.size
  block : ∀ k, k < w.heap.size → k ≠ rb → w'.heap[k]? = w.heap[k]?

theorem Only.refl (rb : Nat) (w : World) : Only rb w w := ⟨rfl, rfl, rfl, Nat.le_refl _, fun _ _ _ => rfl⟩
theorem Only.trans {rb : Nat} {a b c : World} (h : Only rb a b) (k : Only rb b c) : Only rb a c :=
  ⟨k.os.trans h.os, k.tape.trans h.tape, k.output.trans h.output, Nat.le_trans h.size k.size, fun i hi hne => (k.block i (Nat.lt_of_lt_of_le hi h.size) hne).trans (h.block i hi hne)⟩
theorem Only.below {rb B : Nat} {w w' : World} (h : Only rb w w') (hB : B ≤ rb) (hs : B ≤ w.heap.size) : Below B w w' :=
  ⟨h.os, h.tape, h.output, h.size, fun k hk => h.block k (by omega) (by omega)⟩
theorem Only.of_below {rb : Nat} {w w' : World} (h : Below w.heap.size w w') : Only rb w w' := ⟨h.os, h.tape, h.output, h.size, fun k hk _ => h.block k hk⟩
theorem Only.drewN {rb : Nat} {a w : World} (h : Only rb a w) (n : Nat) : Only rb a (w.drewN n) := ⟨h.os, h.tape, h.output, h.size, h.block⟩
theorem Only.setCell {rb : Nat} {a w : World} (h : Only rb a w) (o : Nat) (u : Value) : Only rb a (w.setCell ⟨rb, o, none⟩ u) :=
  h.trans ⟨rfl, rfl, rfl, by simp [World.setCell], fun k _ hne => Below.heap_setCell _ _ _ _ hne⟩
theorem Only.alloc {rb : Nat} {a w : World} (h : Only rb a w) (o : Obj) : Only rb a (w.alloc o) :=
  h.trans (Only.of_below ((Below.refl _ _).alloc (Nat.le_refl _) o))

theorem Bs.only {w w' : World} {v : Value} {bs : List UInt8} {rb : Nat} (h : Bs w v bs) (ho : Only rb w w') (hk : bs ≠ [] → v.ownBlock ≠ some rb) : Bs w' v bs := by
  by_cases hb : bs = []
  · subst hb
    obtain ⟨a, cap, rfl, h1, h2, h3⟩ := h
    exact ⟨a, cap, rfl, h1, h2, fun hne => absurd rfl hne⟩
  · exact h.of_block ho.size fun k hv hlt => ho.block k hlt (fun e => hk hb (e ▸ hv))

/-- What Skip and Take answer, and how far they go. -/
def skipE (len at_ : Nat) (n : Int) : Int := if n < 0 then 3 else if (len : Int) - at_ < n then 1 else 0
def skipN (len at_ : Nat) (n : Int) : Nat := if n < 0 then 0 else if (len : Int) - at_ < n then 0 else n.toNat

end Go.Proofs.YtclmafoelibihaaGreat

/- Plain arithmetic of layer 1: shifted bytes that are joined. -/
namespace Go.Proofs.YtclmafoelibihaaGreat
set_option linter.unusedVariables false
set_option linter.unusedSimpArgs false

theorem pow256 (k : Nat) : 256 ^ k = 2 ^ (8 * k) := by rw [Nat.pow_mul]

theorem wrap_u64_small (n : Nat) (h : n < 18446744073709551616) : IntKind.u64.wrap (n : Int) = (n : Int) := by
  rw [IntKind.wrap_u64]; omega

theorem or_step (x c k : Nat) (hx : x < 256 ^ k) (hc : c < 256) (hk : k < 8) :
    bits .or .u64 (x : Int) (IntKind.u64.wrap ((c : Int) * 2 ^ (8 * k))) = ((x + 256 ^ k * c : Nat) : Int) := by
  have h8 : 256 ^ k * 256 ≤ 18446744073709551616 := by
    have : 256 ^ (k + 1) ≤ 256 ^ 8 := Nat.pow_le_pow_right (by omega) (by omega)
    rw [Nat.pow_succ] at this; simpa using this
  have hpc : 256 ^ k * c < 18446744073709551616 := Nat.lt_of_lt_of_le (Nat.mul_lt_mul_of_pos_left hc (Nat.pow_pos (by omega))) h8
  have hxl : x < 18446744073709551616 := Nat.lt_of_lt_of_le hx (Nat.le_trans (Nat.le_mul_of_pos_right _ (by omega)) h8)
  have e : ((c : Int) * 2 ^ (8 * k)) = ((256 ^ k * c : Nat) : Int) := by
    rw [pow256]; push_cast; rw [Int.mul_comm]
  rw [e, wrap_u64_small _ hpc, u64_or_nat _ _ hxl hpc, Nat.or_comm, nat_join (8 * k) (256 ^ k * c) x (by rw [pow256]; exact Nat.mul_mod_right _ _) (by rw [← pow256]; exact hx), Nat.add_comm]

theorem i64_or_nat (a b : Nat) (ha : a < 9223372036854775808) (hb : b < 9223372036854775808) : bits .or .i64 (a : Int) (b : Int) = ((a ||| b : Nat) : Int) := by
  have hx : a ||| b < 2 ^ 63 := Nat.or_lt_two_pow (by omega) (by omega)
  show IntKind.i64.wrap ((BitVec.ofInt 64 (a : Int) ||| BitVec.ofInt 64 (b : Int)).toNat : Int) = _
  rw [BitVec.toNat_or, ofInt_u64 a (by omega), ofInt_u64 b (by omega), IntKind.wrap_i64]
  omega

theorem or_low (x d : Nat) (hx : x < 256 ^ 3) (hd : d < 256) : bits .or .i64 ((x : Int) * 256) (d : Int) = ((256 * x + d : Nat) : Int) := by
  have e : ((x : Int) * 256) = ((x * 256 : Nat) : Int) := by omega
  rw [e, i64_or_nat _ _ (by omega) (by omega), nat_join 8 (x * 256) d (by omega) (by omega)]
  congr 1; omega

end Go.Proofs.YtclmafoelibihaaGreat

/- Num of the reader: the number of so many bytes, the lowest first. -/
namespace Go.Proofs.YtclmafoelibihaaGreat
set_option linter.unusedVariables false
set_option linter.unusedSimpArgs false
open Go.RowKit

/-- The number that bytes tell, the lowest first. -/
def leN : List UInt8 → Nat
  | [] => 0
  | b :: r => b.toNat + 256 * leN r

theorem leN_snoc (l : List UInt8) (b : UInt8) : leN (l ++ [b]) = leN l + 256 ^ l.length * b.toNat := by
  induction l with
  | nil => simp [leN]
  | cons a r ih => simp [leN, ih, Nat.pow_succ]; rw [Nat.mul_add, ← Nat.mul_assoc, Nat.mul_comm 256 (256 ^ r.length)]; omega

theorem leN_lt (l : List UInt8) : leN l < 256 ^ l.length := by
  induction l with
  | nil => simp [leN]
  | cons a r ih => have := a.toNat_lt; simp [leN, Nat.pow_succ]; omega

theorem seg_succ (bs : List UInt8) (at_ k : Nat) (h : at_ + k < bs.length) : seg bs at_ (k + 1) = seg bs at_ k ++ [bs[at_ + k]] := by
  unfold seg
  rw [List.take_succ_eq_append_getElem (by simp; omega)]
  simp

/-- Num, of whatever number: what it answers, and how far it goes. -/
def numN (len at_ : Nat) (n : Int) : Nat := if wideB n = true then if (len : Int) - at_ < n then 0 else n.toNat else 0
def numE (len at_ : Nat) (n : Int) : Int := if wideB n = true then if (len : Int) - at_ < n then 1 else 0 else 17

theorem wide_cases {n : Int} (h : wideB n = true) : n = 1 ∨ n = 2 ∨ n = 4 ∨ n = 8 := by simp [wideB] at h; omega

end Go.Proofs.YtclmafoelibihaaGreat

/- Packed of the reader: a packed number, or why there is none. -/
namespace Go.Proofs.YtclmafoelibihaaGreat
set_option linter.unusedVariables false
set_option linter.unusedSimpArgs false
open Go.RowKit

/-- Bytes behind a number, the highest first. -/
def beA (x : Nat) (l : List UInt8) : Nat := l.foldl (fun y b => 256 * y + b.toNat) x
theorem beA_snoc (x : Nat) (l : List UInt8) (b : UInt8) : beA x (l ++ [b]) = 256 * beA x l + b.toNat := by simp [beA]
theorem beA_lt (l : List UInt8) : ∀ (x m : Nat), x < 256 ^ m → beA x l < 256 ^ (m + l.length) := by
  induction l with
  | nil => intro x m h; simpa [beA] using h
  | cons b r ih =>
    intro x m h
    have hb := b.toNat_lt
    have := ih (256 * x + b.toNat) (m + 1) (by rw [Nat.pow_succ]; omega)
    rw [show m + (b :: r).length = m + 1 + r.length by simp; omega]
    exact this

/-- What stands at a place, as a packed number that begins with c, wants s bytes and bears the mark mk: the number, how many bytes it has, the error. -/
def unpS (bs : List UInt8) (at_ c s mk : Nat) : Nat × Nat × Nat :=
  if s = 0 then (0, 0, 2) else if bs.length < at_ + s then (0, 0, 1) else if sizeI (beA (c - mk) (seg bs (at_ + 1) (s - 1)) : Int) = (s : Int) then (beA (c - mk) (seg bs (at_ + 1) (s - 1)), s, 0) else (0, 0, 2)
def wantN (c : Nat) : Nat := (wantI (c : Int)).toNat
def markN (s : Nat) : Nat := (markI (s : Int)).toNat
def unp (bs : List UInt8) (at_ : Nat) : Nat × Nat × Nat :=
  if h : at_ < bs.length then unpS bs at_ bs[at_].toNat (wantN bs[at_].toNat) (markN (wantN bs[at_].toNat)) else (0, 0, 1)

theorem want_facts (c : Nat) (_hc : c < 256) : wantI (c : Int) = (wantN c : Int) ∧ wantN c ≤ 4 ∧ markI (wantN c : Int) = (markN (wantN c) : Int) ∧ markN (wantN c) ≤ c := by
  unfold wantN markN
  by_cases h1 : (c : Int) < 128
  · simp [wantI, markI, h1]
  · by_cases h2 : (c : Int) < 192
    · simp [wantI, markI, h1, h2]; omega
    · by_cases h3 : (c : Int) < 224
      · simp [wantI, markI, h1, h2, h3]; omega
      · simp [wantI, markI, h1, h2, h3]

end Go.Proofs.YtclmafoelibihaaGreat

/- Put and Pack of layer 1. -/
namespace Go.Proofs.YtclmafoelibihaaGreat
set_option linter.unusedVariables false
set_option linter.unusedSimpArgs false
open Go.RowKit

/-- Bytes that were put, one by one, behind others. -/
def puts (bs zs : List UInt8) (k : Nat) : List UInt8 := bs ++ (zs.take k ++ List.replicate (zs.length - k) 0)
theorem puts_length (bs zs : List UInt8) (k : Nat) (h : k ≤ zs.length) : (puts bs zs k).length = bs.length + zs.length := by simp [puts]; omega
theorem puts_zero (bs zs : List UInt8) : puts bs zs 0 = ext bs zs.length := by simp [puts, ext]
theorem puts_all (bs zs : List UInt8) : puts bs zs zs.length = bs ++ zs := by simp [puts]
theorem puts_succ (bs zs : List UInt8) (k : Nat) (h : k < zs.length) : (puts bs zs k).set (bs.length + k) zs[k] = puts bs zs (k + 1) := by
  unfold puts
  rw [List.set_append_right _ _ (by omega), List.set_append_right _ _ (by simp; omega)]
  simp only [List.length_take]
  rw [show bs.length + k - bs.length - min k zs.length = 0 by omega, show zs.length - k = (zs.length - (k + 1)) + 1 by omega, List.replicate_succ, List.set_cons_zero, List.take_succ_eq_append_getElem h]
  simp only [List.append_assoc, List.singleton_append]

theorem u8s_set (l : List UInt8) (i : Nat) (x : Int) (y : UInt8) (hx : x = (y.toNat : Int)) : (u8s l).toArray.setIfInBounds i (.int .u8 x) = (u8s (l.set i y)).toArray := by
  subst hx; simp [u8s]
theorem u8s_at (l : List UInt8) (i : Nat) (h : i < l.length) : (u8s l).toArray[i]? = some (.int .u8 (l[i].toNat : Int)) := by simp [u8s_get l i h]

/-- A number's bytes, so many, the highest first. -/
def beL (n s : Nat) : List UInt8 := (List.range s).map fun k => UInt8.ofNat (n / 2 ^ (8 * (s - 1 - k)))
theorem beL_length (n s : Nat) : (beL n s).length = s := by simp [beL]
theorem beL_get (n s k : Nat) (h : k < (beL n s).length) : ((beL n s)[k].toNat : Int) = (n : Int) / 2 ^ (8 * (s - 1 - k)) % 256 := by
  simp [beL]

set_option maxRecDepth 100000 in
set_option maxHeartbeats 1000000 in
theorem pack_yes {v : Value} {bs : List UInt8} {w : World} (hv : Bs w v bs) (hb : bs.length ≤ 281474976710600) (n s mk : Nat) (hs : sizeI (n : Int) = (s : Int)) (hs1 : 1 ≤ s) (hs4 : s ≤ 4) (hm : markI (s : Int) = (mk : Int))
    (z0 y0 : UInt8) (zr : List UInt8) (hz : beL n s = z0 :: zr) (hy : y0.toNat = z0.toNat + mk) :
    Calls Tryz.prog 171 #[v, .int .i64 (n : Int)] w fun e w' => e = .returned (.tuple #[.slice (some ⟨w.heap.size, 0, none⟩) (bs.length + s) (bs.length + s), .int .i64 0]) ∧
      ∃ m, w' = (w.alloc (.cells (u8s (bs ++ y0 :: zr)).toArray 5)).drewN m := by
  have HE : Hid (Calls Tryz.prog 192 #[v, .int .i64 (s : Int)] w fun e w' => e = .returned (.slice (some ⟨w.heap.size, 0, none⟩) (bs.length + s) (bs.length + s)) ∧ w' = w.alloc (.cells (u8s (ext bs s)).toArray 5)) := extend_any hv s (by omega)
  have hs0 : ((s : Int) == 0) = false := by rw [beq_eq_false_iff_ne]; omega
  obtain ⟨a, cap, rfl, h1, h2, h3⟩ := hv
  clear h3
  have hzl := beL_length n s
  have HZ : Hid (beL n s = z0 :: zr) := hz
  clear hz
  go_enter Tryz.func171, Tryz.ntmps171
  go_wp2_with fail
  refine (size_any _ _).mono ?_
  rintro e wz ⟨rfl, hz'⟩
  subst wz
  go_wp2_with fail
  refine HE.out.mono ?_
  rintro e wz ⟨rfl, hz'⟩
  subst wz
  clear HE
  go_wp2_with fail
  go_loopw [17] (fun i wr => ∃ (k : Nat) (C : Array Value), k ≤ s ∧ i = .int .i64 k ∧ wr = w.alloc (.cells C 5) ∧ C = (u8s (puts bs (beL n s) k)).toArray) (fun i _ => s - (intOf i).toNat)
  case atStart => exact ⟨0, _, Nat.zero_le _, rfl, rfl, by rw [puts_zero, beL_length]⟩
  case round =>
    obtain ⟨k, C, hk, rfl, rfl, hC⟩ := hrel
    by_cases hkn : k < s
    · have hcell : ∃ x : Int, C[bs.length + k]? = some (.int .u8 x) := ⟨_, by rw [hC]; exact u8s_at _ _ (by rw [puts_length bs (beL n s) k (by omega)]; omega)⟩
      obtain ⟨x, hcell⟩ := hcell
      have HC : Hid (C.setIfInBounds (bs.length + k) (.int .u8 ((n : Int) / 2 ^ (8 * (s - 1 - k)) % 256)) = (u8s (puts bs (beL n s) (k + 1))).toArray) := by
        show _ = _
        rw [hC, u8s_set _ _ _ _ (beL_get n s k (by omega)).symm, puts_succ]
      clear hC
      go_wp2
      go_roundw
      case rel => exact ⟨k + 1, _, by omega, by go_num, rfl, HC.out⟩
      case measure => simp [intOf]; omega
    · have hkk : k = s := by omega
      subst hkk
      have hC2 : C = (u8s (bs ++ z0 :: zr)).toArray := by rw [hC, ← HZ.out, ← puts_all bs (beL n k), beL_length]
      clear hC
      have hcell : C[bs.length]? = some (.int .u8 (z0.toNat : Int)) := by rw [hC2]; rw [u8s_at _ _ (by simp)]; simp
      have HC : Hid (C.setIfInBounds bs.length (.int .u8 (IntKind.u8.wrap ((z0.toNat : Int) + mk))) = (u8s (bs ++ y0 :: zr)).toArray) := by
        show _ = _
        rw [hC2, u8s_set _ _ _ y0 (by rw [IntKind.wrap_u8]; have := y0.toNat_lt; omega)]
        simp
      clear hC2 HZ hzl
      have hyl : z0.toNat + mk < 256 := by have := y0.toNat_lt; omega
      clear hy
      go_wp2_with fail
      go_region_with (go_at_call 193; refine (markOf_any _ _).mono ?_; rintro e wz ⟨rfl, hz'⟩; subst wz)
      all_goals
        go_wp2
        go_ret2
        refine ⟨rfl, 1, ?_⟩
        rw [HC.out]
        rfl

theorem pack_no (v : Value) (n : Int) (w : World) (hs : sizeI n = 0) :
    Calls Tryz.prog 171 #[v, .int .i64 n] w fun e w' => e = .returned (.tuple #[.slice none 0 0, .int .i64 3]) ∧ w' = w := by
  go_enter Tryz.func171, Tryz.ntmps171
  go_wp2_with fail
  refine (size_any _ _).mono ?_
  rintro e wz ⟨rfl, hz'⟩
  subst wz
  go_wp2
  go_ret2
  exact ⟨rfl, rfl⟩

theorem ofNat_mod (n : Nat) : UInt8.ofNat n = UInt8.ofNat (n % 256) := UInt8.toNat_inj.1 (by simp)

/-- A packed number's bytes. -/
def pkL (n : Nat) : List UInt8 :=
  if n ≤ 127 then [UInt8.ofNat n] else if n ≤ 16383 then [UInt8.ofNat (128 + n / 256), UInt8.ofNat (n % 256)]
  else [UInt8.ofNat (192 + n / 16777216), UInt8.ofNat (n / 65536 % 256), UInt8.ofNat (n / 256 % 256), UInt8.ofNat (n % 256)]

theorem pkL_length (n : Nat) (h : n ≤ 536870911) : ((pkL n).length : Int) = sizeI (n : Int) := by
  unfold pkL sizeI
  split
  · simp; omega
  · split
    · simp; omega
    · simp; omega

theorem pack_any {v : Value} {bs : List UInt8} {w : World} (hv : Bs w v bs) (hb : bs.length ≤ 281474976710600) (n : Nat) (hn : n ≤ 536870911) :
    Calls Tryz.prog 171 #[v, .int .i64 (n : Int)] w fun e w' => e = .returned (.tuple #[.slice (some ⟨w.heap.size, 0, none⟩) (bs.length + (pkL n).length) (bs.length + (pkL n).length), .int .i64 0]) ∧
      ∃ m, w' = (w.alloc (.cells (u8s (bs ++ pkL n)).toArray 5)).drewN m := by
  have hl := pkL_length n hn
  by_cases h1 : n ≤ 127
  · have e1 : pkL n = UInt8.ofNat n :: [] := by simp [pkL, h1]
    rw [e1]
    exact pack_yes hv hb n 1 0 (by rw [← hl, e1]; simp) (by omega) (by omega) (by simp [markI]) (UInt8.ofNat n) (UInt8.ofNat n) [] (by simp [beL]) (by omega)
  · by_cases h2 : n ≤ 16383
    · have e1 : pkL n = [UInt8.ofNat (128 + n / 256), UInt8.ofNat (n % 256)] := by simp [pkL, h1, h2]
      rw [e1]
      exact pack_yes hv hb n 2 128 (by rw [← hl, e1]; simp) (by omega) (by omega) (by simp [markI]) (UInt8.ofNat (n / 256)) _ _ (by simp [beL, List.range_succ]; exact ofNat_mod _) (by simp; omega)
    · have e1 : pkL n = [UInt8.ofNat (192 + n / 16777216), UInt8.ofNat (n / 65536 % 256), UInt8.ofNat (n / 256 % 256), UInt8.ofNat (n % 256)] := by simp [pkL, h1, h2]
      rw [e1]
      exact pack_yes hv hb n 4 192 (by rw [← hl, e1]; simp) (by omega) (by omega) (by simp [markI]) (UInt8.ofNat (n / 16777216)) _ _ (by simp [beL, List.range_succ]; exact ⟨ofNat_mod _, ofNat_mod _, ofNat_mod _⟩) (by simp; omega)

/-- Pack, by what its result holds. -/
theorem pack_bs {v : Value} {bs : List UInt8} {w : World} (hv : Bs w v bs) (hb : bs.length ≤ 281474976710600) (n : Nat) (hn : n ≤ 536870911) (L : Nat) (hL : bs.length + (pkL n).length = L) :
    Calls Tryz.prog 171 #[v, .int .i64 (n : Int)] w fun e w' => e = .returned (.tuple #[.slice (some ⟨w.heap.size, 0, none⟩) L L, .int .i64 0]) ∧
      Bs w' (.slice (some ⟨w.heap.size, 0, none⟩) L L) (bs ++ pkL n) ∧ Below w.heap.size w w' ∧ w.heap.size < w'.heap.size := by
  refine (pack_any hv hb n hn).mono ?_
  rintro e w' ⟨rfl, m, rfl⟩
  rw [hL]
  have h4 : (pkL n).length ≤ 4 := by unfold pkL; split <;> (try split) <;> simp
  refine ⟨rfl, ?_, Below.drewN ((Below.refl _ _).alloc (Nat.le_refl _) _) m, by simp⟩
  have := Bs.made w (bs ++ pkL n) 5 (by simp only [List.length_append, maxLen]; omega)
  rw [List.length_append, hL] at this
  exact this.drewN m

end Go.Proofs.YtclmafoelibihaaGreat

/- Same of the references: two slices of bytes are alike just if their bytes are. -/
namespace Go.Proofs.YtclmafoelibihaaGreat
set_option linter.unusedVariables false
set_option linter.unusedSimpArgs false
open Go.RowKit

theorem take_eq_succ {xs ys : List UInt8} {k : Nat} (h1 : k < xs.length) (h2 : k < ys.length) (h : xs.take k = ys.take k) (e : xs[k] = ys[k]) : xs.take (k + 1) = ys.take (k + 1) := by
  rw [List.take_succ_eq_append_getElem h1, List.take_succ_eq_append_getElem h2, h, e]

end Go.Proofs.YtclmafoelibihaaGreat

/- wakes of layer 1's statements: the examples hold. -/
namespace Go.Proofs.YtclmafoelibihaaGreat
set_option linter.unusedVariables false
set_option linter.unusedSimpArgs false
open Go.RowKit

theorem unp_ex : unp [192, 0, 64, 0] 0 = (16384, 4, 0) := by decide +kernel

theorem bs_lit (w : World) (bs : List UInt8) (C : Array Value) (e : TypeId) (n : Nat) (hC : C = (u8s bs).toArray) (hn : n = bs.length) (hm : bs.length ≤ maxLen) : Bs (w.alloc (.cells C e)) (.slice (some ⟨w.heap.size, 0, none⟩) n n) bs := by
  subst hC hn; exact Bs.made w bs e hm

end Go.Proofs.YtclmafoelibihaaGreat
