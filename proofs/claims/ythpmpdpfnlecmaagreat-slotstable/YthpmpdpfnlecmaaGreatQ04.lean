/- Texts joined: Put5, Puts5, TList5. -/
import Derived.Test.YthpmpdpfnlecmaaGreatQ03
namespace Go.Proofs.YthpmpdpfnlecmaaGreat
set_option linter.unusedVariables false
set_option linter.unusedSimpArgs false
open Go.RowKit
theorem At.grown {w w' : World} {g base : Nat} {C : Array Value} {t : TypeId} {v : Value} {xs : List UInt8} (h : At w g C t) (ho : Own w base 5 v xs) (ht : t ≠ 5) (hg : w.grownBy w' v.ownBlock) : At w' g C t:=by
 have hl:=h.lt
 have hne : some g ≠ v.ownBlock:=by
  intro e
  obtain ⟨C',hC⟩:=ho.v.typed g e.symm
  unfold At at h
  rw [h] at hC
  simp only [Option.some.injEq,Obj.cells.injEq] at hC
  exact ht hC.2.1
 unfold At at h ⊢
 rw [hg.block g hl hne]; exact h

def Keeps (w w' : World) : Prop := ∀ g C t,t ≠ 5 → At w g C t → At w' g C t
theorem Keeps.refl (w : World) : Keeps w w:=fun _ _ _ _ h => h
theorem Keeps.trans {a b c : World} (h : Keeps a b) (k : Keeps b c) : Keeps a c:=fun g C t ht ha => k g C t ht (h g C t ht ha)
theorem Keeps.of_below {w w' : World} (h : Below w.heap.size w w') : Keeps w w':=fun _ _ _ _ ha => ha.later h
theorem Keeps.of_grown {w w' : World} {base : Nat} {v : Value} {xs : List UInt8} (ho : Own w base 5 v xs) (hg : w.grownBy w' v.ownBlock) : Keeps w w':=fun _ _ _ ht ha => ha.grown ho ht hg
theorem Keeps.lit {w w2 : World} {o : Obj} {base : Nat} {v : Value} {xs : List UInt8} (ho : Own w base 5 v xs) (hg : (w.alloc o).grownBy w2 v.ownBlock) : Keeps w w2 :=
 (Keeps.of_below ((Below.refl _ _).alloc (Nat.le_refl _) _)).trans (Keeps.of_grown (ho.later ((Below.refl _ _).alloc (Nat.le_refl _) _)) hg)

theorem pack_own {v : Value} {bs : List UInt8} {w : World} {base : Nat} (hv : Own w base 5 v bs) (hb : bs.length ≤ 281474976710600) (hbase : base ≤ w.heap.size) (n : Nat) (hn : n ≤ 536870911) :
  Calls Tryz.prog 240 #[v,.int .i64 (n : Int)] w fun e w' => ∃ v',e = .returned (.tuple #[v',.int .i64 0])∧Own w' base 5 v' (bs ++ pkL n)∧Below w.heap.size w w':=by
 have hpl : (pkL n).length ≤ 4:=by
  have:=pkL_length n hn
  unfold sizeI at this
  repeat' split at this
  all_goals omega
 refine (pack_any hv.bs hb n hn).mono ?_
 rintro e w' ⟨rfl,m,rfl⟩
 refine ⟨_,rfl, ?_,Below.drewN ((Below.refl _ _).alloc (Nat.le_refl _) _) m⟩
 have h:=Own.lit w base 5 (bs ++ pkL n) _ _ hbase rfl rfl (by simp [maxLen]; omega)
 rw [List.length_append] at h
 exact h.later (Below.drewN (Below.refl _ _) m)

theorem code_row (n : Nat) (hn : n < 32) : codeI 0 ((n : Int) + 1) = ((4 * (n + 1) : Nat) : Int)∧codeE 0 ((n : Int) + 1) = 0:=by
 unfold codeI codeE
 rw [if_neg (by omega),if_neg (by omega),if_neg (by omega),if_neg (by omega),if_neg (by omega),if_neg (by omega)]
 omega

set_option maxHeartbeats 2000000 in
set_option maxRecDepth 100000 in
theorem putType_yes {f : FuncId} {p : Nat} (hF : Rule f p) {w : World} {base : Nat} {v : Value} {xs : List UInt8} (hv : Own w base 5 v xs) (hbase : base ≤ w.heap.size) (hx : xs.length ≤ 1000000) (k i d : Int) (r : Bool) (hm : mayB p k i d r = true) :
  Calls Tryz.prog 216 #[v,.agg #[.int .i64 k,.int .i64 i,.int .i64 d,.bool r],.func (.func f) #[] #[]] w fun e w' => ∃ v',e = .returned (.tuple #[v',.int .i64 0])∧Own w' base 5 v' (xs ++ encB k i d r)∧Below base w w'∧Keeps w w':=by
 obtain ⟨hin,hmay,hpl⟩:=hF
 have hp:=hpl k i d r hm
 clear hpl
 obtain ⟨p1,p2,p3,p4⟩:=plain_facts hp
 obtain ⟨m,rfl⟩:=Int.eq_ofNat_of_zero_le p1
 obtain ⟨n,rfl⟩:=Int.eq_ofNat_of_zero_le p3
 have HP4 : Hid (k = 1∧(m : Int) = 0∧r = false∧(n : Int) = 0 ∨ (k = 2 ∨ k = 3 ∨ k = 4)∧(n : Int) = 0 ∨ (k = 5 ∨ k = 6)∧(n : Int) < 32 ∨ k = 7∧(n : Int) ≤ 7):=p4
 have HEnc : Hid (encB k (n : Int) (m : Int) r = headL r ++ (List.replicate m 29 ++ (markU k :: numL k (n : Int)))):=by show _ = _; unfold encB; rw [Int.toNat_natCast]
 clear hp p4
 go_enter Tryz.func216,Tryz.ntmps216
 go_wp2_with fail
 refine (hmay k n m r _).mono ?_
 rintro e w1 ⟨rfl,hb1⟩
 have hT1:=(At.made w #[.int .i64 k,.int .i64 (n : Int),.int .i64 (m : Int),.bool r] 51).later hb1
 have hB1:=(below_box hb1).mono hbase
 have hK1 : Keeps w w1:=Keeps.of_below (below_box hb1)
 have hO1:=hv.later (below_box hb1)
 have hs1 : base ≤ w1.heap.size:=Nat.le_trans hbase hB1.size
 clear hb1 hv
 have tc:=hT1.cell
 obtain ⟨zs,hzs⟩ : ∃ zs,zs = xs ++ headL r:=⟨_,rfl⟩
 have HZ : Hid (zs = xs ++ headL r):=hzs
 clear hzs
 have HZL : Hid (zs.length ≤ xs.length + 1):=by show _ ≤ _; rw [HZ.out]; unfold headL; split <;> simp
 cases r with
 | true =>
  have HO1 : Hid (Own w1 base 5 v xs):=hO1
  clear hO1
  go_wp2_with (at_builtin; go_must (refine wpList_append_bs rfl _ _ _ rfl base 5 Tryz.underlying160 Tryz.infoU8 rfl rfl (HO1.out.later ((Below.refl _ _).alloc (Nat.le_refl _) _)) (bs_lit w1 [16] _ _ _ (by simp [u8s]) rfl (by simp [maxLen])) (by simp; omega) (by simp; omega) ?_))
  intro v0 w0 ho0 hg0
  have hb0 : Below base w1 w0:=((Below.refl _ _).alloc (by omega) _).grown hg0 (by simp; omega) (fun k hk => (HO1.out.block k hk).1)
  have hT0:=(hT1.next (.cells #[.int .u8 16] 5)).grown (HO1.out.later ((Below.refl _ _).alloc (Nat.le_refl _) _)) (by decide) hg0
  have hB0:=hB1.trans hb0
  have hK0:=hK1.trans (Keeps.lit HO1.out hg0)
  have hO0 : Own w0 base 5 v0 zs:=by rw [HZ.out]; simpa [headL] using ho0
  clear ho0 hg0 hb0 HO1 hT1 hB1 tc
  have tc:=hT0.cell
  go_wp2
  go_loopw [0,21] (fun u z wr => ∃ q : Nat,q ≤ m∧z = .int .i64 (q : Int)∧Own wr base 5 u (zs ++ List.replicate q 29)∧At wr w.heap.size #[.int .i64 k,.int .i64 (n : Int),.int .i64 (m : Int),.bool true] 51∧Below base w wr∧Keeps w wr) (fun _ z _ => m - (intOf z).toNat)
  case atStart => exact ⟨0,Nat.zero_le _,rfl,by simpa using hO0,hT0,hB0,hK0⟩
  case round =>
   obtain ⟨q,hq,rfl,ho,hT,hB,hK⟩:=hrel
   clear hO0 hT0 hB0 hs1 tc
   have hsw:=hB.size
   have tc:=hT.cell
   have HO : Hid (Own wr base 5 u0 (zs ++ List.replicate q 29)):=ho
   clear ho
   by_cases hqm : q < m
   ·go_wp2_with (at_builtin; go_must (refine wpList_append_bs rfl _ _ _ rfl base 5 Tryz.underlying160 Tryz.infoU8 rfl rfl (HO.out.later ((Below.refl _ _).alloc (Nat.le_refl _) _)) (bs_lit wr [29] _ _ _ (by simp [u8s]) rfl (by simp [maxLen])) (by have:=HZL.out; simp; omega) (by simp; omega) ?_; intro v2 w2 ho2 hg2))
    have hb2 : Below base wr w2:=((Below.refl _ _).alloc (by omega) _).grown hg2 (by simp; omega) (fun k hk => (HO.out.block k hk).1)
    have hT2:=(hT.next (.cells #[.int .u8 29] 5)).grown (HO.out.later ((Below.refl _ _).alloc (Nat.le_refl _) _)) (by decide) hg2
    go_roundw
    case rel => exact ⟨q + 1,by omega,by go_num,by rw [List.replicate_succ',← List.append_assoc]; exact ho2,hT2,hB.trans hb2,hK.trans (Keeps.lit HO.out hg2)⟩
    case measure => simp [intOf]; omega
   ·have hqq : q = m:=by omega
    subst hqq
    go_wp2_with fail
    refine (markOf5_any k _).mono ?_
    rintro e wz ⟨rfl,hz⟩
    subst wz
    go_wp2_with (at_builtin; go_must (refine wpList_append_bs rfl _ _ _ rfl base 5 Tryz.underlying160 Tryz.infoU8 rfl rfl (HO.out.later ((Below.refl _ _).alloc (Nat.le_refl _) _)) (bs_lit wr [markU k] _ _ _ (by simp [u8s]) rfl (by simp [maxLen])) (by have:=HZL.out; simp; omega) (by simp; omega) ?_))
    intro v2 w2 ho2 hg2
    have hb2 : Below base wr w2:=((Below.refl _ _).alloc (by omega) _).grown hg2 (by simp; omega) (fun k hk => (HO.out.block k hk).1)
    have hT2:=(hT.next (.cells #[.int .u8 ((markU k).toNat : Int)] 5)).grown (HO.out.later ((Below.refl _ _).alloc (Nat.le_refl _) _)) (by decide) hg2
    have hB2:=hB.trans hb2
    have hK2:=hK.trans (Keeps.lit HO.out hg2)
    have hs2 : base ≤ w2.heap.size:=by have:=hb2.size; omega
    have HO2 : Hid (Own w2 base 5 v2 (zs ++ List.replicate q 29 ++ [markU k])):=by show Own _ _ _ _ _; rw [List.append_assoc]; exact ho2
    have HL2 : Hid ((zs ++ List.replicate q 29 ++ [markU k]).length ≤ 281474976710600):=by show _ ≤ _; have:=HZL.out; simp; omega
    have HE2 : Hid (xs ++ encB k (n : Int) (q : Int) true = zs ++ List.replicate q 29 ++ [markU k] ++ numL k (n : Int)):=by show _ = _; rw [HEnc.out,HZ.out]; simp
    clear ho2 hg2 hb2 hT hB tc hsw HO HEnc
    have tc:=hT2.cell
    clear hT2
    rcases HP4.out with ⟨rfl,g1,g2,g3⟩ | ⟨g1,g2⟩ | ⟨g1,g2⟩ | ⟨rfl,g2⟩
    ·have HN : Hid (numL 1 (n : Int) = []):=by show _ = _; simp [numL]
     clear HP4 g1 g2 g3
     go_wp2
     go_ret2
     exact ⟨_,rfl,by rw [HE2.out,HN.out,List.append_nil]; exact HO2.out,hB2,hK2⟩
    ·have HN : Hid (numL k (n : Int) = []):=by show _ = _; unfold numL; rw [if_neg (by omega),if_neg (by omega)]
     clear HP4 g2
     rcases g1 with rfl | rfl | rfl
     all_goals
      go_wp2
      go_ret2
      exact ⟨_,rfl,by rw [HE2.out,HN.out,List.append_nil]; exact HO2.out,hB2,hK2⟩
    ·have HN : Hid (numL k (n : Int) = pkL (4 * (n + 1))):=by show _ = _; unfold numL; rw [if_pos g1]; simp
     obtain ⟨cr1,cr2⟩:=code_row n (by omega)
     have HCd : Hid (∀ w,Calls Tryz.prog 239 #[.int .i64 0,.int .i64 ((n : Int) + 1)] w fun e w' => e = .returned (.tuple #[.int .i64 ((4 * (n + 1) : Nat) : Int),.int .i64 0])∧w' = w):=by
      intro w
      have:=code_any 0 ((n : Int) + 1) w
      rw [cr1,cr2] at this
      exact this
     have hn32 : (n : Int) < 32:=g2
     have HPk : Hid (Calls Tryz.prog 240 #[v2,.int .i64 ((4 * (n + 1) : Nat) : Int)] w2 fun e w' => ∃ v',e = .returned (.tuple #[v',.int .i64 0])∧Own w' base 5 v' (zs ++ List.replicate q 29 ++ [markU k] ++ pkL (4 * (n + 1)))∧Below w2.heap.size w2 w'):=pack_own HO2.out HL2.out hs2 (4 * (n + 1)) (by omega)
     clear HP4 g2 cr1 cr2
     obtain ⟨x4,hx4⟩ : ∃ x4 : Int,((4 * (n + 1) : Nat) : Int) = x4:=⟨_,rfl⟩
     rw [hx4] at HCd HPk
     clear hx4
     rcases g1 with rfl | rfl
     all_goals
      go_wp2_with fail
      refine (HCd.out _).mono ?_
      rintro e wz ⟨rfl,hz⟩
      subst wz
      go_wp2_with fail
      refine Calls.mono HPk.out ?_
      rintro e w3 ⟨v3,rfl,ho3,hb3⟩
      go_wp2
      go_ret2
      exact ⟨_,rfl,by rw [HE2.out,HN.out]; exact ho3,hB2.trans (hb3.mono hs2),hK2.trans (Keeps.of_below hb3)⟩
    ·have HN : Hid (numL 7 (n : Int) = pkL n):=by show _ = _; simp [numL]
     have HPk : Hid (Calls Tryz.prog 240 #[v2,.int .i64 (n : Int)] w2 fun e w' => ∃ v',e = .returned (.tuple #[v',.int .i64 0])∧Own w' base 5 v' (zs ++ List.replicate q 29 ++ [markU 7] ++ pkL n)∧Below w2.heap.size w2 w'):=pack_own HO2.out HL2.out hs2 n (by omega)
     clear HP4 g2
     go_wp2_with fail
     refine Calls.mono HPk.out ?_
     rintro e w3 ⟨v3,rfl,ho3,hb3⟩
     go_wp2
     go_ret2
     exact ⟨_,rfl,by rw [HE2.out,HN.out]; exact ho3,hB2.trans (hb3.mono hs2),hK2.trans (Keeps.of_below hb3)⟩
 | false =>
  have hO1' : Own w1 base 5 v zs:=by rw [HZ.out]; simpa [headL] using hO1
  clear hO1
  go_wp2
  go_loopw [0,21] (fun u z wr => ∃ q : Nat,q ≤ m∧z = .int .i64 (q : Int)∧Own wr base 5 u (zs ++ List.replicate q 29)∧At wr w.heap.size #[.int .i64 k,.int .i64 (n : Int),.int .i64 (m : Int),.bool false] 51∧Below base w wr∧Keeps w wr) (fun _ z _ => m - (intOf z).toNat)
  case atStart => exact ⟨0,Nat.zero_le _,rfl,by simpa using hO1',hT1,hB1,hK1⟩
  case round =>
   obtain ⟨q,hq,rfl,ho,hT,hB,hK⟩:=hrel
   clear hO1' hT1 hB1 hs1 tc
   have hsw:=hB.size
   have tc:=hT.cell
   have HO : Hid (Own wr base 5 u0 (zs ++ List.replicate q 29)):=ho
   clear ho
   by_cases hqm : q < m
   ·go_wp2_with (at_builtin; go_must (refine wpList_append_bs rfl _ _ _ rfl base 5 Tryz.underlying160 Tryz.infoU8 rfl rfl (HO.out.later ((Below.refl _ _).alloc (Nat.le_refl _) _)) (bs_lit wr [29] _ _ _ (by simp [u8s]) rfl (by simp [maxLen])) (by have:=HZL.out; simp; omega) (by simp; omega) ?_; intro v2 w2 ho2 hg2))
    have hb2 : Below base wr w2:=((Below.refl _ _).alloc (by omega) _).grown hg2 (by simp; omega) (fun k hk => (HO.out.block k hk).1)
    have hT2:=(hT.next (.cells #[.int .u8 29] 5)).grown (HO.out.later ((Below.refl _ _).alloc (Nat.le_refl _) _)) (by decide) hg2
    go_roundw
    case rel => exact ⟨q + 1,by omega,by go_num,by rw [List.replicate_succ',← List.append_assoc]; exact ho2,hT2,hB.trans hb2,hK.trans (Keeps.lit HO.out hg2)⟩
    case measure => simp [intOf]; omega
   ·have hqq : q = m:=by omega
    subst hqq
    go_wp2_with fail
    refine (markOf5_any k _).mono ?_
    rintro e wz ⟨rfl,hz⟩
    subst wz
    go_wp2_with (at_builtin; go_must (refine wpList_append_bs rfl _ _ _ rfl base 5 Tryz.underlying160 Tryz.infoU8 rfl rfl (HO.out.later ((Below.refl _ _).alloc (Nat.le_refl _) _)) (bs_lit wr [markU k] _ _ _ (by simp [u8s]) rfl (by simp [maxLen])) (by have:=HZL.out; simp; omega) (by simp; omega) ?_))
    intro v2 w2 ho2 hg2
    have hb2 : Below base wr w2:=((Below.refl _ _).alloc (by omega) _).grown hg2 (by simp; omega) (fun k hk => (HO.out.block k hk).1)
    have hT2:=(hT.next (.cells #[.int .u8 ((markU k).toNat : Int)] 5)).grown (HO.out.later ((Below.refl _ _).alloc (Nat.le_refl _) _)) (by decide) hg2
    have hB2:=hB.trans hb2
    have hK2:=hK.trans (Keeps.lit HO.out hg2)
    have hs2 : base ≤ w2.heap.size:=by have:=hb2.size; omega
    have HO2 : Hid (Own w2 base 5 v2 (zs ++ List.replicate q 29 ++ [markU k])):=by show Own _ _ _ _ _; rw [List.append_assoc]; exact ho2
    have HL2 : Hid ((zs ++ List.replicate q 29 ++ [markU k]).length ≤ 281474976710600):=by show _ ≤ _; have:=HZL.out; simp; omega
    have HE2 : Hid (xs ++ encB k (n : Int) (q : Int) false = zs ++ List.replicate q 29 ++ [markU k] ++ numL k (n : Int)):=by show _ = _; rw [HEnc.out,HZ.out]; simp
    clear ho2 hg2 hb2 hT hB tc hsw HO HEnc
    have tc:=hT2.cell
    clear hT2
    rcases HP4.out with ⟨rfl,g1,g2,g3⟩ | ⟨g1,g2⟩ | ⟨g1,g2⟩ | ⟨rfl,g2⟩
    ·have HN : Hid (numL 1 (n : Int) = []):=by show _ = _; simp [numL]
     clear HP4 g1 g2 g3
     go_wp2
     go_ret2
     exact ⟨_,rfl,by rw [HE2.out,HN.out,List.append_nil]; exact HO2.out,hB2,hK2⟩
    ·have HN : Hid (numL k (n : Int) = []):=by show _ = _; unfold numL; rw [if_neg (by omega),if_neg (by omega)]
     clear HP4 g2
     rcases g1 with rfl | rfl | rfl
     all_goals
      go_wp2
      go_ret2
      exact ⟨_,rfl,by rw [HE2.out,HN.out,List.append_nil]; exact HO2.out,hB2,hK2⟩
    ·have HN : Hid (numL k (n : Int) = pkL (4 * (n + 1))):=by show _ = _; unfold numL; rw [if_pos g1]; simp
     obtain ⟨cr1,cr2⟩:=code_row n (by omega)
     have HCd : Hid (∀ w,Calls Tryz.prog 239 #[.int .i64 0,.int .i64 ((n : Int) + 1)] w fun e w' => e = .returned (.tuple #[.int .i64 ((4 * (n + 1) : Nat) : Int),.int .i64 0])∧w' = w):=by
      intro w
      have:=code_any 0 ((n : Int) + 1) w
      rw [cr1,cr2] at this
      exact this
     have hn32 : (n : Int) < 32:=g2
     have HPk : Hid (Calls Tryz.prog 240 #[v2,.int .i64 ((4 * (n + 1) : Nat) : Int)] w2 fun e w' => ∃ v',e = .returned (.tuple #[v',.int .i64 0])∧Own w' base 5 v' (zs ++ List.replicate q 29 ++ [markU k] ++ pkL (4 * (n + 1)))∧Below w2.heap.size w2 w'):=pack_own HO2.out HL2.out hs2 (4 * (n + 1)) (by omega)
     clear HP4 g2 cr1 cr2
     obtain ⟨x4,hx4⟩ : ∃ x4 : Int,((4 * (n + 1) : Nat) : Int) = x4:=⟨_,rfl⟩
     rw [hx4] at HCd HPk
     clear hx4
     rcases g1 with rfl | rfl
     all_goals
      go_wp2_with fail
      refine (HCd.out _).mono ?_
      rintro e wz ⟨rfl,hz⟩
      subst wz
      go_wp2_with fail
      refine Calls.mono HPk.out ?_
      rintro e w3 ⟨v3,rfl,ho3,hb3⟩
      go_wp2
      go_ret2
      exact ⟨_,rfl,by rw [HE2.out,HN.out]; exact ho3,hB2.trans (hb3.mono hs2),hK2.trans (Keeps.of_below hb3)⟩
    ·have HN : Hid (numL 7 (n : Int) = pkL n):=by show _ = _; simp [numL]
     have HPk : Hid (Calls Tryz.prog 240 #[v2,.int .i64 (n : Int)] w2 fun e w' => ∃ v',e = .returned (.tuple #[v',.int .i64 0])∧Own w' base 5 v' (zs ++ List.replicate q 29 ++ [markU 7] ++ pkL n)∧Below w2.heap.size w2 w'):=pack_own HO2.out HL2.out hs2 n (by omega)
     clear HP4 g2
     go_wp2_with fail
     refine Calls.mono HPk.out ?_
     rintro e w3 ⟨v3,rfl,ho3,hb3⟩
     go_wp2
     go_ret2
     exact ⟨_,rfl,by rw [HE2.out,HN.out]; exact ho3,hB2.trans (hb3.mono hs2),hK2.trans (Keeps.of_below hb3)⟩

theorem putType_no {f : FuncId} {p : Nat} (hF : Rule f p) (w : World) (v : Value) (k i d : Int) (r : Bool) (hm : mayB p k i d r = false) :
  Calls Tryz.prog 216 #[v,.agg #[.int .i64 k,.int .i64 i,.int .i64 d,.bool r],.func (.func f) #[] #[]] w fun e w' => e = .returned (.tuple #[.slice none 0 0,.int .i64 17])∧Below w.heap.size w w':=by
 obtain ⟨hin,hmay,hpl⟩:=hF
 clear hpl
 go_enter Tryz.func216,Tryz.ntmps216
 go_wp2_with fail
 refine (hmay k i d r _).mono ?_
 rintro e w1 ⟨rfl,hb1⟩
 have hB:=below_box hb1
 clear hb1
 go_wp2
 go_ret2
 exact ⟨rfl,hB⟩
theorem putField_yes (k i d : Int) (r : Bool) (w : World) (hp : mayB 1 k i d r = true) :
  Calls Tryz.prog 188 #[.agg #[.int .i64 k,.int .i64 i,.int .i64 d,.bool r]] w fun e w' => ∃ v,e = .returned (.tuple #[v,.int .i64 0])∧Own w' w.heap.size 5 v (6 :: encB k i d r)∧Below w.heap.size w w':=by
 have HC : Hid (∀ (W : World) (g : Nat),g = W.heap.size → w.heap.size ≤ W.heap.size → Calls Tryz.prog 216 #[.slice (some ⟨g,0,none⟩) 1 1,.agg #[.int .i64 k,.int .i64 i,.int .i64 d,.bool r],.func (.func 217) #[] #[]] (W.alloc (.cells #[.int .u8 6] 5)) fun e w' => ∃ v',e = .returned (.tuple #[v',.int .i64 0])∧Own w' w.heap.size 5 v' (6 :: encB k i d r)∧Below w.heap.size (W.alloc (.cells #[.int .u8 6] 5)) w') :=
  fun W g hg hW => by subst hg; exact (putType_yes rule_field (Own.lit W w.heap.size 5 [6] _ 1 hW (by simp [u8s]) rfl (by simp [maxLen])) (by simp; omega) (by simp) k i d r hp).mono fun e w' ⟨v',h1,h2,h3,_⟩ => ⟨v',h1,h2,h3⟩
 go_enter Tryz.func188,Tryz.ntmps188
 go_wp2_with fail
 refine Calls.mono (HC.out _ _ (by simp) (by simp)) ?_
 rintro e w1 ⟨v1,rfl,h1,h2⟩
 go_wp2
 go_ret2
 exact ⟨_,rfl,h1,(((Below.refl _ _).alloc (Nat.le_refl _) _).alloc (by simp) _).trans h2⟩

theorem putField_no (k i d : Int) (r : Bool) (w : World) (hp : mayB 1 k i d r = false) :
  Calls Tryz.prog 188 #[.agg #[.int .i64 k,.int .i64 i,.int .i64 d,.bool r]] w fun e w' => e = .returned (.tuple #[.slice none 0 0,.int .i64 17])∧Below w.heap.size w w':=by
 have HC : Hid (∀ (W : World) (v : Value),Calls Tryz.prog 216 #[v,.agg #[.int .i64 k,.int .i64 i,.int .i64 d,.bool r],.func (.func 217) #[] #[]] W fun e w' => e = .returned (.tuple #[.slice none 0 0,.int .i64 17])∧Below W.heap.size W w') :=
  fun W v => putType_no rule_field W v k i d r hp
 go_enter Tryz.func188,Tryz.ntmps188
 go_wp2_with fail
 refine Calls.mono (HC.out _ _) ?_
 rintro e w1 ⟨rfl,h2⟩
 go_wp2
 go_ret2
 exact ⟨rfl,below_box (below_box h2)⟩
def Ts (w : World) (v : Value) (ts : List Ty) : Prop :=
 ∃ a cap,v = .slice a ts.length cap∧ts.length ≤ cap∧cap ≤ maxLen ∧
  (ts ≠ [] → ∃ b off,a = some ⟨b,off,none⟩∧b < w.heap.size∧∀ i (h : i < ts.length),w.cell? ⟨b,off + i * 4,none⟩ = some (.int .i64 ts[i].1)∧w.cell? ⟨b,off + i * 4 + 1,none⟩ = some (.int .i64 ts[i].2.1) ∧
   w.cell? ⟨b,off + i * 4 + 2,none⟩ = some (.int .i64 ts[i].2.2.1)∧w.cell? ⟨b,off + i * 4 + 3,none⟩ = some (.bool ts[i].2.2.2))

theorem Ts.nil (w : World) : Ts w (.slice none 0 0) []:=⟨none,0,rfl,Nat.le_refl _,Nat.zero_le _,fun h => absurd rfl h⟩
theorem Ts.len {w : World} {v : Value} {ts : List Ty} (h : Ts w v ts) : ts.length ≤ maxLen:=by
 obtain ⟨a,cap,_,h1,h2,_⟩:=h; omega
theorem Ts.of_block {w w' : World} {v : Value} {ts : List Ty} (h : Ts w v ts) (hs : w.heap.size ≤ w'.heap.size) (hk : ∀ k,v.ownBlock = some k → k < w.heap.size → w'.heap[k]? = w.heap[k]?) : Ts w' v ts:=by
 obtain ⟨a,cap,rfl,h1,h2,h3⟩:=h
 refine ⟨a,cap,rfl,h1,h2,fun hne => ?_⟩
 obtain ⟨b,off,rfl,hb,hc⟩:=h3 hne
 refine ⟨b,off,rfl,by omega,fun i hi => ?_⟩
 have e : ∀ o,w'.cell? ⟨b,o,none⟩ = w.cell? ⟨b,o,none⟩:=fun o => World.cell?_of_block (hk b rfl hb)
 rw [e,e,e,e]
 exact hc i hi
theorem Ts.below {w w' : World} {v : Value} {ts : List Ty} {B : Nat} (h : Ts w v ts) (hb : Below B w w') (hk : ∀ k,v.ownBlock = some k → k < B) : Ts w' v ts :=
 h.of_block hb.size fun k hv _ => hb.block k (hk k hv)
theorem Ts.later {w w' : World} {v : Value} {ts : List Ty} (h : Ts w v ts) (hb : Below w.heap.size w w') : Ts w' v ts :=
 h.of_block hb.size fun k _ hk => hb.block k hk
theorem Ts.lt {w : World} {v : Value} {ts : List Ty} (h : Ts w v ts) (hne : ts ≠ []) : ∀ g,v.ownBlock = some g → g < w.heap.size:=by
 obtain ⟨a,cap,rfl,_,_,h3⟩:=h
 obtain ⟨b,off,rfl,hb,_⟩:=h3 hne
 intro g hg
 simp [Value.ownBlock] at hg
 omega
def encs (ts : List Ty) : List UInt8:=ts.flatMap encT
theorem encs_snoc (ts : List Ty) (t : Ty) : encs (ts ++ [t]) = encs ts ++ encT t:=by simp [encs]
theorem encs_cons (t : Ty) (ts : List Ty) : encs (t :: ts) = encT t ++ encs ts:=by simp [encs]

theorem enc_len (t : Ty) (h : plainT t = true) : (encT t).length ≤ 10:=by
 obtain ⟨k,i,d,r⟩:=t
 have h' : plainB k i d r = true:=h
 obtain ⟨h1,h2,h3,h4⟩:=plain_facts h'
 have hn : (numL k i).length ≤ 4:=by
  have q : ∀ n,n ≤ 536870911 → (pkL n).length ≤ 4:=fun n hn => by
   have:=pkL_length n hn
   unfold sizeI at this
   repeat' split at this
   all_goals omega
  unfold numL
  repeat' split
  ·exact q _ (by omega)
  ·exact q _ (by omega)
  ·simp
 have hh : (headL r).length ≤ 1:=by unfold headL; split <;> simp
 simp only [encT,encB,List.length_append,List.length_replicate,List.length_cons]
 omega

theorem encs_len (ts : List Ty) (p : Nat) (hp : ∀ t,mayT p t = true → plainT t = true) (h : ts.all (mayT p) = true) : (encs ts).length ≤ 10 * ts.length:=by
 induction ts with
 | nil => simp [encs]
 | cons t r ih =>
  simp only [List.all_cons,Bool.and_eq_true] at h
  have h1:=enc_len t (hp t h.1)
  have h2:=ih h.2
  rw [encs_cons,List.length_append,List.length_cons]
  omega

theorem Rule.plainT {f : FuncId} {p : Nat} (h : Rule f p) (t : Ty) (ht : mayT p t = true) : plainT t = true:=h.plain t.1 t.2.1 t.2.2.1 t.2.2.2 ht

set_option maxHeartbeats 1000000 in
set_option maxRecDepth 100000 in
theorem putTypes_some {f : FuncId} {p : Nat} (hF : Rule f p) {w : World} {base b off cap : Nat} {v : Value} {xs : List UInt8} (hv : Own w base 5 v xs) (hbase : base ≤ w.heap.size) (hx : xs.length ≤ 1000) (ts : List Ty) (hlen : ts.length ≤ 100) (hb : b < base)
  (hcell : ∀ i (h : i < ts.length),w.cell? ⟨b,off + i * 4,none⟩ = some (.int .i64 ts[i].1)∧w.cell? ⟨b,off + i * 4 + 1,none⟩ = some (.int .i64 ts[i].2.1) ∧
   w.cell? ⟨b,off + i * 4 + 2,none⟩ = some (.int .i64 ts[i].2.2.1)∧w.cell? ⟨b,off + i * 4 + 3,none⟩ = some (.bool ts[i].2.2.2)) :
  Calls Tryz.prog 220 #[v,.slice (some ⟨b,off,none⟩) ts.length cap,.func (.func f) #[] #[]] w fun e w' =>
   (ts.all (mayT p) = true → ∃ v',e = .returned (.tuple #[v',.int .i64 0])∧Own w' base 5 v' (xs ++ encs ts))∧(ts.all (mayT p) = false → e = .returned (.tuple #[.slice none 0 0,.int .i64 17]))∧Below base w w'∧Keeps w w':=by
 have HC : Hid (∀ i (h : i < ts.length),w.cell? ⟨b,off + i * 4,none⟩ = some (.int .i64 ts[i].1)∧w.cell? ⟨b,off + i * 4 + 1,none⟩ = some (.int .i64 ts[i].2.1) ∧
   w.cell? ⟨b,off + i * 4 + 2,none⟩ = some (.int .i64 ts[i].2.2.1)∧w.cell? ⟨b,off + i * 4 + 3,none⟩ = some (.bool ts[i].2.2.2)):=hcell
 clear hcell
 have HPl : Hid (∀ t,mayT p t = true → plainT t = true):=hF.plainT
 go_enter Tryz.func220,Tryz.ntmps220
 go_wp2
 go_loopw [0,13] (fun u z wr => ∃ q : Nat,q ≤ ts.length∧z = .int .i64 (q : Int)∧Own wr base 5 u (xs ++ encs (ts.take q))∧Below base w wr∧Keeps w wr∧(ts.take q).all (mayT p) = true) (fun _ z _ => ts.length - (intOf z).toNat)
 case atStart => exact ⟨0,Nat.zero_le _,rfl,by simpa [encs] using hv,Below.refl _ _,Keeps.refl _,by simp⟩
 case round =>
  obtain ⟨q,hq,rfl,ho,hB,hK,hall⟩:=hrel
  have hsw:=hB.size
  have HO : Hid (Own wr base 5 u0 (xs ++ encs (ts.take q))):=ho
  clear hv ho
  by_cases hql : q < ts.length
  ·obtain ⟨c0,c1,c2,c3⟩:=HC.out q hql
   have e : ∀ o,wr.cell? ⟨b,o,none⟩ = w.cell? ⟨b,o,none⟩:=fun o => hB.cell (p:=⟨b,o,none⟩) hb
   rw [← e] at c0 c1 c2 c3
   clear e
   have HT : Hid (ts.take (q + 1) = ts.take q ++ [ts[q]]):=by show _ = _; rw [List.take_succ_eq_append_getElem hql]
   have HS : Hid (ts.all (mayT p) = true → mayT p ts[q] = true):=fun h => List.all_eq_true.1 h _ (List.getElem_mem hql)
   generalize ts[q] = t at *
   obtain ⟨k,i,d,r⟩:=t
   simp only at c0 c1 c2 c3
   have hle:=encs_len (ts.take q) p HPl.out hall
   have hle2 : (xs ++ encs (ts.take q)).length ≤ 1000000:=by simp at hle ⊢; omega
   have HLE : Hid ((xs ++ encs (ts.take q)).length ≤ 1000000):=hle2
   clear hle hle2
   have hbx : Below wr.heap.size wr (wr.alloc (.cells #[.int .i64 k,.int .i64 i,.int .i64 d,.bool r] 51)):=(Below.refl _ _).alloc (Nat.le_refl _) _
   by_cases hm : mayB p k i d r = true
   ·have HP : Hid (Calls Tryz.prog 216 #[u0,.agg #[.int .i64 k,.int .i64 i,.int .i64 d,.bool r],.func (.func f) #[] #[]] (wr.alloc (.cells #[.int .i64 k,.int .i64 i,.int .i64 d,.bool r] 51)) fun e w' => ∃ v',e = .returned (.tuple #[v',.int .i64 0])∧Own w' base 5 v' (xs ++ encs (ts.take q) ++ encB k i d r)∧Below base wr w'∧Keeps wr w'):=by
     refine (putType_yes hF (HO.out.later hbx) (by simp; omega) HLE.out k i d r hm).mono ?_
     rintro e w' ⟨v',rfl,h1,h2,h3⟩
     exact ⟨v',rfl,h1,(hbx.mono (by omega)).trans h2,(Keeps.of_below hbx).trans h3⟩
    have HM : Hid (mayT p (k,i,d,r) = true):=hm
    have HA : Hid ((ts.take q).all (mayT p) = true):=hall
    clear hall hbx hm
    go_wp2_with fail
    refine Calls.mono HP.out ?_
    rintro e w2 ⟨v2,rfl,ho2,hb2,hk2⟩
    go_wp2
    go_roundw
    case rel => exact ⟨q + 1,by omega,by go_num,by rw [HT.out,encs_snoc,← List.append_assoc]; exact ho2,hB.trans hb2,hK.trans hk2,by rw [HT.out,List.all_append,HA.out]; simpa using HM.out⟩
    case measure => simp [intOf]; omega
   ·have hm' : mayB p k i d r = false:=by simpa using hm
    have HNA : Hid (ts.all (mayT p) = false):=by
     show _ = _
     rcases hz : ts.all (mayT p) with _ | _
     ·rfl
     ·exact absurd (HS.out hz) (by simp [mayT,hm'])
    have HP : Hid (Calls Tryz.prog 216 #[u0,.agg #[.int .i64 k,.int .i64 i,.int .i64 d,.bool r],.func (.func f) #[] #[]] (wr.alloc (.cells #[.int .i64 k,.int .i64 i,.int .i64 d,.bool r] 51)) fun e w' => e = .returned (.tuple #[.slice none 0 0,.int .i64 17])∧Below base w w'∧Keeps w w'):=by
     refine (putType_no hF _ u0 k i d r hm').mono ?_
     rintro e w' ⟨rfl,h2⟩
     exact ⟨rfl,hB.trans ((below_box h2).mono (by omega)),hK.trans (Keeps.of_below (below_box h2))⟩
    clear hm hm' hall
    go_wp2_with fail
    refine Calls.mono HP.out ?_
    rintro e w2 ⟨rfl,hb2,hk2⟩
    go_wp2
    go_ret2
    exact ⟨fun h => absurd h (by rw [HNA.out]; decide),fun _ => rfl,hb2,hk2⟩
  ·have hqq : q = ts.length:=by omega
   subst hqq
   rw [List.take_length] at HO hall
   have HA : Hid (ts.all (mayT p) = true):=hall
   clear hall
   go_wp2
   go_ret2
   exact ⟨fun _ => ⟨_,rfl,HO.out⟩,fun h => absurd HA.out (by rw [h]; decide),hB,hK⟩

set_option maxHeartbeats 400000 in
theorem putTypes_none {f : FuncId} {v : Value} {x : Option Addr} {cap : Nat} (w : World) :
  Calls Tryz.prog 220 #[v,.slice x 0 cap,.func (.func f) #[] #[]] w fun e w' => e = .returned (.tuple #[v,.int .i64 0])∧w' = w:=by
 go_enter Tryz.func220,Tryz.ntmps220
 go_wp2
 go_loopw [0,13] (fun u z wr => z = .int .i64 0∧u = v∧wr = w) (fun _ z _ => 0)
 case atStart => exact ⟨rfl,rfl,rfl⟩
 case round =>
  obtain ⟨rfl,rfl,rfl⟩:=hrel
  go_wp2
  go_ret2
  exact ⟨rfl,rfl⟩

theorem putTypes_any {f : FuncId} {p : Nat} (hF : Rule f p) {w : World} {base : Nat} {v lv : Value} {xs : List UInt8} (hv : Own w base 5 v xs) (hbase : base ≤ w.heap.size) (hx : xs.length ≤ 1000) {ts : List Ty} (hT : Ts w lv ts) (hlen : ts.length ≤ 100) (hb : ts ≠ [] → ∀ k,lv.ownBlock = some k → k < base) :
  Calls Tryz.prog 220 #[v,lv,.func (.func f) #[] #[]] w fun e w' =>
   (ts.all (mayT p) = true → ∃ v',e = .returned (.tuple #[v',.int .i64 0])∧Own w' base 5 v' (xs ++ encs ts))∧(ts.all (mayT p) = false → e = .returned (.tuple #[.slice none 0 0,.int .i64 17]))∧Below base w w'∧Keeps w w':=by
 obtain ⟨a,cap,rfl,h1,h2,h3⟩:=hT
 by_cases hne : ts = []
 ·subst hne
  refine (putTypes_none w).mono ?_
  rintro e w' ⟨rfl,rfl⟩
  exact ⟨fun _ => ⟨v,rfl,by simpa [encs] using hv⟩,fun h => by simp at h,Below.refl _ _,Keeps.refl _⟩
 ·obtain ⟨b,off,rfl,hb1,hc⟩:=h3 hne
  exact putTypes_some hF hv hbase hx ts hlen (hb hne b rfl) hc

theorem putCount_any (c : Nat) (hc : c < 256) (n : Nat) (hn : n ≤ 100) (x : Option Addr) (cap : Nat) (w : World) (base : Nat) (hbase : base ≤ w.heap.size) :
  Calls Tryz.prog 218 #[.int .u8 (c : Int),.slice x n cap] w fun e w' => ∃ v,e = .returned v∧Own w' base 5 v [UInt8.ofNat c,UInt8.ofNat n]∧Below w.heap.size w w':=by
 have hp : pkL n = [UInt8.ofNat n]:=by unfold pkL; rw [if_pos (by omega)]
 have hlit : Own (w.alloc (.cells #[.int .u8 (c : Int)] 5)) base 5 (.slice (some ⟨w.heap.size,0,none⟩) 1 1) [UInt8.ofNat c]:=Own.lit w base 5 [UInt8.ofNat c] _ 1 hbase (by simp [u8s]; omega) rfl (by simp [maxLen])
 have HP : Hid (Calls Tryz.prog 240 #[.slice (some ⟨w.heap.size,0,none⟩) 1 1,.int .i64 (n : Int)] (w.alloc (.cells #[.int .u8 (c : Int)] 5)) fun e w' => ∃ v',e = .returned (.tuple #[v',.int .i64 0])∧Own w' base 5 v' [UInt8.ofNat c,UInt8.ofNat n]∧Below w.heap.size w w'):=by
  refine (pack_own hlit (by simp) (by simp; omega) n (by omega)).mono ?_
  rintro e w' ⟨v',rfl,h1,h2⟩
  rw [hp] at h1
  exact ⟨v',rfl,h1,((Below.refl _ _).alloc (Nat.le_refl _) _).trans (h2.mono (by simp))⟩
 clear hlit hp
 go_enter Tryz.func218,Tryz.ntmps218
 go_wp2_with fail
 refine Calls.mono HP.out ?_
 rintro e w1 ⟨v1,rfl,h1,h2⟩
 go_wp2
 go_ret
 exact ⟨_,rfl,h1,h2⟩
end Go.Proofs.YthpmpdpfnlecmaaGreat
