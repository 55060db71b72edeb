
/- Blob of the pool, and of the references. -/
import Derived.Test.YtlcfbnbbdpgjiaaRows
import Derived.Test.YtlcfbnbbdpgjiaaRefName
import Derived.Test.YtlcfbnbbdpgjiaaRefUnpack
namespace Go.Proofs.Ytlcfbnbbdpgjiaa
set_option linter.unusedVariables false
set_option linter.unusedSimpArgs false
open Go.RowKit Go.Maps

/-- What stands at a place of a pool of blobs: the error, the blob. -/
def blobE (bs : List UInt8) (n : Nat) : Int := if (unp bs n).2.2 = 0 then if bs.length < n + (unp bs n).2.1 + (unp bs n).1 then 1 else 0 else ((unp bs n).2.2 : Int)
def blobS (bs : List UInt8) (n : Nat) : List UInt8 := if (unp bs n).2.2 = 0 then if bs.length < n + (unp bs n).2.1 + (unp bs n).1 then [] else seg bs (n + (unp bs n).2.1) (unp bs n).1 else []

theorem blob_out {w : World} {a : Option Addr} {len cap : Nat} (hl : len ≤ cap) (hc : cap ≤ maxLen) (n : Int) (h : n < 0 ∨ (len : Int) ≤ n) :
    Calls Try.prog 21 #[.slice a len cap, .int .i64 n] w fun e w' => e = .returned (.tuple #[.slice none 0 0, .int .i64 3]) ∧ w' = w := by
  unfold maxLen at hc
  by_cases h1 : n < 0
  · clear h
    go_enter Try.func21, Try.ntmps21
    go_wp2_with fail
    go_ret2
    exact ⟨rfl, rfl⟩
  · have h2 : (len : Int) ≤ n := by omega
    clear h
    go_enter Try.func21, Try.ntmps21
    go_wp2_with fail
    go_ret2
    exact ⟨rfl, rfl⟩

theorem refBlob_out {w : World} {a : Option Addr} {len cap : Nat} (hl : len ≤ cap) (hc : cap ≤ maxLen) (n : Int) (h : n < 0 ∨ (len : Int) ≤ n) :
    Calls Try.prog 22 #[.slice a len cap, .int .i64 n] w fun e w' => e = .returned (.tuple #[.slice none 0 0, .int .i64 3]) ∧ w' = w := by
  unfold maxLen at hc
  by_cases h1 : n < 0
  · clear h
    go_enter Try.func22, Try.ntmps22
    go_wp2_with fail
    go_ret2
    exact ⟨rfl, rfl⟩
  · have h2 : (len : Int) ≤ n := by omega
    clear h
    go_enter Try.func22, Try.ntmps22
    go_wp2_with fail
    go_ret2
    exact ⟨rfl, rfl⟩

set_option maxHeartbeats 1000000 in
theorem blob_in {w : World} {v : Value} {bs : List UInt8} (hv : Bs w v bs) (n : Nat) (h2 : n < bs.length) (hs : bs.length ≤ 140737488351232) :
    Calls Try.prog 21 #[v, .int .i64 (n : Int)] w fun e w' => ∃ v', e = .returned (.tuple #[v', .int .i64 (blobE bs n)]) ∧ Bs w' v' (blobS bs n) ∧ Below w.heap.size w w' := by
  have hv0 := hv
  obtain ⟨a, cap, rfl, g1, g2, -⟩ := hv0
  unfold maxLen at g2
  obtain ⟨a1, c1, hr1, hb1, -⟩ := slice_from (P := Try.prog) hv n (by omega) 27 5 Try.underlying27 sizeU8
  have HB1 : Hid (Bs w (.slice a1 (bs.length - n) c1) (bs.drop n)) := hb1
  clear hb1
  have hdl : (bs.drop n).length = bs.length - n := by simp
  have hud := unp_drop bs n (by omega)
  have HOK := fun h => unp_ok bs n h
  unfold blobE blobS
  have hseg : seg bs (n + (unp bs n).2.1) (unp bs n).1 = seg (bs.drop n) (0 + (unp bs n).2.1) (unp bs n).1 := by unfold seg; rw [List.drop_drop, Nat.zero_add]
  rw [hseg]
  have HPA : Hid (∀ W rb, RdAt W rb (bs.drop n) 0 → Calls Try.prog 29 #[.pointer (some ⟨rb, 0, none⟩)] W fun e w' => e = .returned (.tuple #[.int .i64 ((unp bs n).1 : Int), .int .i64 ((unp bs n).2.2 : Int)]) ∧ RdAt w' rb (bs.drop n) (0 + (unp bs n).2.1) ∧ Only rb W w') := fun W rb hR => by
    rw [hud]; exact packed_any hR
  have HLEN : Hid ((unp bs n).2.2 = 0 → n + (unp bs n).2.1 ≤ bs.length) := fun h => (HOK h).1
  clear hud hseg HOK
  generalize unp bs n = u at *
  obtain ⟨x, l, c⟩ := u
  simp only at *
  by_cases hc : c = 0
  · subst hc
    have hlen := HLEN.out rfl
    rw [if_pos rfl, if_pos rfl]
    by_cases hfit : bs.length < n + l + x
    · rw [if_pos hfit, if_pos hfit]
      go_enter Try.func21, Try.ntmps21
      go_wp2_with fail
      refine (new_any HB1.out (by omega)).mono ?_
      rintro e w1 ⟨rfl, hr, hb⟩
      have HR1 : Hid _ := hr
      have HBL1 : Hid (Below w.heap.size w w1) := hb
      have hs1 := hb.size
      have hlt1 := hr.lt
      clear hr hb
      go_wp2_with fail
      refine (HPA.out _ _ HR1.out).mono ?_
      rintro e w2 ⟨rfl, hr2, ho2⟩
      have HR2 : Hid _ := hr2
      have HBL2 : Hid (Below w.heap.size w w2) := HBL1.out.trans (ho2.below (by omega) (by omega))
      have hs2 := ho2.size
      clear hr2 ho2
      go_wp2_with fail
      refine (take_no HR2.out (x : Int) 1 (by unfold skipE; rw [if_neg (by omega), if_pos (by rw [hdl]; omega)]) (by decide)).mono ?_
      rintro e w3 ⟨rfl, -, ho3⟩
      have HBL3 : Hid (Below w.heap.size w w3) := HBL2.out.trans (ho3.below (by omega) (by omega))
      clear ho3
      go_wp2_with fail
      go_ret2
      exact ⟨_, rfl, Bs.nil _, HBL3.out⟩
    · rw [if_neg hfit, if_neg hfit]
      go_enter Try.func21, Try.ntmps21
      go_wp2_with fail
      refine (new_any HB1.out (by omega)).mono ?_
      rintro e w1 ⟨rfl, hr, hb⟩
      have HR1 : Hid _ := hr
      have HBL1 : Hid (Below w.heap.size w w1) := hb
      have hs1 := hb.size
      have hlt1 := hr.lt
      clear hr hb
      go_wp2_with fail
      refine (HPA.out _ _ HR1.out).mono ?_
      rintro e w2 ⟨rfl, hr2, ho2⟩
      have HR2 : Hid _ := hr2
      have HBL2 : Hid (Below w.heap.size w w2) := HBL1.out.trans (ho2.below (by omega) (by omega))
      have hs2 := ho2.size
      clear hr2 ho2
      go_wp2_with fail
      refine (take_any HR2.out x (by rw [hdl]; omega)).mono ?_
      rintro e w3 ⟨v3, rfl, hb3, -, ho3⟩
      have HBL3 : Hid (Below w.heap.size w w3) := HBL2.out.trans (ho3.below (by omega) (by omega))
      have HBS3 : Hid _ := hb3
      clear ho3 hb3
      go_wp2_with fail
      go_ret2
      exact ⟨_, rfl, HBS3.out, HBL3.out⟩
  · rw [if_neg hc, if_neg hc]
    have hcn : ((c : Int) != 0) = true := by rw [bne_iff_ne]; omega
    go_enter Try.func21, Try.ntmps21
    go_wp2_with fail
    refine (new_any HB1.out (by omega)).mono ?_
    rintro e w1 ⟨rfl, hr, hb⟩
    have HR1 : Hid _ := hr
    have HBL1 : Hid (Below w.heap.size w w1) := hb
    have hs1 := hb.size
    have hlt1 := hr.lt
    clear hr hb
    go_wp2_with fail
    refine (HPA.out _ _ HR1.out).mono ?_
    rintro e w2 ⟨rfl, hr2, ho2⟩
    have HR2 : Hid _ := hr2
    have HBL2 : Hid (Below w.heap.size w w2) := HBL1.out.trans (ho2.below (by omega) (by omega))
    have hs2 := ho2.size
    clear hr2 ho2
    go_wp2_with fail
    go_ret2
    exact ⟨_, rfl, Bs.nil _, HBL2.out⟩

set_option maxHeartbeats 1000000 in
theorem refBlob_in {w : World} {v : Value} {bs : List UInt8} (hv : Bs w v bs) (n : Nat) (h2 : n < bs.length) (hs : bs.length ≤ 140737488351232) :
    Calls Try.prog 22 #[v, .int .i64 (n : Int)] w fun e w' => ∃ v', e = .returned (.tuple #[v', .int .i64 (blobE bs n)]) ∧ Bs w' v' (blobS bs n) ∧ Below w.heap.size w w' := by
  have hv0 := hv
  obtain ⟨a, cap, rfl, g1, g2, -⟩ := hv0
  have HV : Hid (Bs w (.slice a bs.length cap) bs) := hv
  unfold maxLen at g2
  have HU : Hid _ := unpack_any hv n (by omega)
  have HOK := fun h => unp_ok bs n h
  unfold blobE blobS
  have HLEN : Hid ((unp bs n).2.2 = 0 → n + (unp bs n).2.1 ≤ bs.length) := fun h => (HOK h).1
  clear HOK hv
  generalize unp bs n = u at *
  obtain ⟨x, l, c⟩ := u
  simp only at *
  by_cases hc : c = 0
  · subst hc
    have hlen := HLEN.out rfl
    rw [if_pos rfl, if_pos rfl]
    by_cases hfit : bs.length < n + l + x
    · rw [if_pos hfit, if_pos hfit]
      go_enter Try.func22, Try.ntmps22
      go_wp2_with fail
      refine Calls.mono HU.out ?_
      rintro e w1 ⟨rfl, hb1⟩
      have HB1 : Hid (Below w.heap.size w w1) := hb1
      have hs1 := hb1.size
      clear hb1
      go_wp2_with fail
      go_ret2
      exact ⟨_, rfl, Bs.nil _, HB1.out.alloc hs1 _⟩
    · rw [if_neg hfit, if_neg hfit]
      go_enter Try.func22, Try.ntmps22
      go_wp2_with fail
      refine Calls.mono HU.out ?_
      rintro e w1 ⟨rfl, hb1⟩
      have HB1 : Hid (Below w.heap.size w w1) := hb1
      have hs1 := hb1.size
      have hbA := hb1.alloc hs1 (Obj.cells #[.int .i64 (x : Int), .int .i64 (l : Int), .int .i64 0] 66)
      obtain ⟨a2, c2, hr2, hb2, -⟩ := slice_bs (P := Try.prog) (HV.out.later hbA) (n + l) x (by omega) 27 5 Try.underlying27 sizeU8
      have HB2 : Hid (Bs (w1.alloc (Obj.cells #[.int .i64 (x : Int), .int .i64 (l : Int), .int .i64 0] 66)) (.slice a2 x c2) (seg bs (n + l) x)) := hb2
      have hsl : (seg bs (n + l) x).length = x := seg_length bs (n + l) x (by omega)
      simp only [Int.natCast_add] at hr2
      clear hb1 hb2 hbA
      go_wp2_with (at_builtin; go_must (refine wpList_append_bs rfl _ _ _ rfl w.heap.size 5 Try.underlying27 Try.infoU8 rfl rfl (Own.nil _ _ _) HB2.out (by rw [hsl]; simp; omega) (by simp; omega) ?_))
      intro v3 w3 ho3 hg3
      have HO3 : Hid (Bs w3 v3 (seg bs (n + l) x)) := by show Bs _ _ _; have := ho3.bs; simpa using this
      have HB3 : Hid (Below w.heap.size w w3) := (HB1.out.alloc hs1 _).trans ⟨hg3.os, hg3.tape, hg3.output, hg3.size, fun k hk => hg3.block k (by simp; omega) (by simp [Value.ownBlock, Act.eval])⟩
      clear ho3 hg3
      go_wp2_with fail
      go_ret2
      exact ⟨_, rfl, HO3.out, HB3.out⟩
  · rw [if_neg hc, if_neg hc]
    have hcn : ((c : Int) != 0) = true := by rw [bne_iff_ne]; omega
    go_enter Try.func22, Try.ntmps22
    go_wp2_with fail
    refine Calls.mono HU.out ?_
    rintro e w1 ⟨rfl, hb1⟩
    have HB1 : Hid (Below w.heap.size w w1) := hb1
    have hs1 := hb1.size
    clear hb1
    go_wp2_with fail
    go_quiet (fail)
    go_wp2_with fail
    go_ret2
    exact ⟨_, rfl, Bs.nil _, Below.drewN (HB1.out.alloc hs1 _) _⟩

def blE (bs : List UInt8) (n : Int) : Int := if n < 0 ∨ (bs.length : Int) ≤ n then 3 else blobE bs n.toNat
def blS (bs : List UInt8) (n : Int) : List UInt8 := if n < 0 ∨ (bs.length : Int) ≤ n then [] else blobS bs n.toNat

theorem blob_any {w : World} {v : Value} {bs : List UInt8} (hv : Bs w v bs) (hs : bs.length ≤ 140737488351232) (n : Int) :
    Calls Try.prog 21 #[v, .int .i64 n] w fun e w' => ∃ v', e = .returned (.tuple #[v', .int .i64 (blE bs n)]) ∧ Bs w' v' (blS bs n) ∧ Below w.heap.size w w' := by
  by_cases h : n < 0 ∨ (bs.length : Int) ≤ n
  · unfold blS blE
    rw [if_pos h, if_pos h]
    obtain ⟨a, cap, rfl, h1, h2, -⟩ := hv
    refine (blob_out h1 h2 n h).mono ?_
    rintro e w' ⟨rfl, rfl⟩
    exact ⟨_, rfl, Bs.nil _, Below.refl _ _⟩
  · obtain ⟨m, rfl⟩ := Int.eq_ofNat_of_zero_le (show 0 ≤ n by omega)
    unfold blS blE
    rw [if_neg h, if_neg h]
    exact blob_in hv m (by omega) hs

theorem refBlob_any {w : World} {v : Value} {bs : List UInt8} (hv : Bs w v bs) (hs : bs.length ≤ 140737488351232) (n : Int) :
    Calls Try.prog 22 #[v, .int .i64 n] w fun e w' => ∃ v', e = .returned (.tuple #[v', .int .i64 (blE bs n)]) ∧ Bs w' v' (blS bs n) ∧ Below w.heap.size w w' := by
  by_cases h : n < 0 ∨ (bs.length : Int) ≤ n
  · unfold blS blE
    rw [if_pos h, if_pos h]
    obtain ⟨a, cap, rfl, h1, h2, -⟩ := hv
    refine (refBlob_out h1 h2 n h).mono ?_
    rintro e w' ⟨rfl, rfl⟩
    exact ⟨_, rfl, Bs.nil _, Below.refl _ _⟩
  · obtain ⟨m, rfl⟩ := Int.eq_ofNat_of_zero_le (show 0 ≤ n by omega)
    unfold blS blE
    rw [if_neg h, if_neg h]
    exact refBlob_in hv m (by omega) hs

end Go.Proofs.Ytlcfbnbbdpgjiaa
