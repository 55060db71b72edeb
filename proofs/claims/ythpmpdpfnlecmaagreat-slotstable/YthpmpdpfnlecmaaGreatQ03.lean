/- Texts joined: Pack, Wakes, Put, StreamSpec, RowSpec, Codes4, SigSpec, Rule5, Cell5, At5, Apd. -/
import Derived.Test.YthpmpdpfnlecmaaGreatRows
import Derived.Test.YthpmpdpfnlecmaaGreatQ02
import Derived.Deep.RegionWith
import Derived.Test.YthpmpdpfnlecmaaGreatQ01
import Derived.Deep.QuietTactic
import Derived.BigQuiet
import Derived.BigRegion
import Derived.Deep.AppendSrc
import Derived.Deep.DeepAppendWide
import Derived.Laws.IdiomStrings
namespace Go.Proofs.YthpmpdpfnlecmaaGreat
set_option linter.unusedVariables false
set_option linter.unusedSimpArgs false
open Go.RowKit
def puts (bs zs : List UInt8) (k : Nat) : List UInt8:=bs ++ (zs.take k ++ List.replicate (zs.length - k) 0)
theorem puts_length (bs zs : List UInt8) (k : Nat) (h : k ≤ zs.length) : (puts bs zs k).length = bs.length + zs.length:=by simp [puts]; omega
theorem puts_zero (bs zs : List UInt8) : puts bs zs 0 = ext bs zs.length:=by simp [puts,ext]
theorem puts_all (bs zs : List UInt8) : puts bs zs zs.length = bs ++ zs:=by simp [puts]
theorem puts_succ (bs zs : List UInt8) (k : Nat) (h : k < zs.length) : (puts bs zs k).set (bs.length + k) zs[k] = puts bs zs (k + 1):=by
 unfold puts
 rw [List.set_append_right _ _ (by omega),List.set_append_right _ _ (by simp; omega)]
 simp only [List.length_take]
 rw [show bs.length + k - bs.length - min k zs.length = 0 by omega,show zs.length - k = (zs.length - (k + 1)) + 1 by omega,List.replicate_succ,List.set_cons_zero,List.take_succ_eq_append_getElem h]
 simp only [List.append_assoc,List.singleton_append]

theorem u8s_set (l : List UInt8) (i : Nat) (x : Int) (y : UInt8) (hx : x = (y.toNat : Int)) : (u8s l).toArray.setIfInBounds i (.int .u8 x) = (u8s (l.set i y)).toArray:=by
 subst hx; simp [u8s]
theorem u8s_at (l : List UInt8) (i : Nat) (h : i < l.length) : (u8s l).toArray[i]? = some (.int .u8 (l[i].toNat : Int)):=by simp [u8s_get l i h]

def beL (n s : Nat) : List UInt8:=(List.range s).map fun k => UInt8.ofNat (n / 2 ^ (8 * (s - 1 - k)))
theorem beL_length (n s : Nat) : (beL n s).length = s:=by simp [beL]
theorem beL_get (n s k : Nat) (h : k < (beL n s).length) : ((beL n s)[k].toNat : Int) = (n : Int) / 2 ^ (8 * (s - 1 - k)) % 256:=by
 simp [beL]

set_option maxRecDepth 100000 in
set_option maxHeartbeats 1000000 in
theorem pack_yes {v : Value} {bs : List UInt8} {w : World} (hv : Bs w v bs) (hb : bs.length ≤ 281474976710600) (n s mk : Nat) (hs : sizeI (n : Int) = (s : Int)) (hs1 : 1 ≤ s) (hs4 : s ≤ 4) (hm : markI (s : Int) = (mk : Int))
  (z0 y0 : UInt8) (zr : List UInt8) (hz : beL n s = z0 :: zr) (hy : y0.toNat = z0.toNat + mk) :
  Calls Tryz.prog 240 #[v,.int .i64 (n : Int)] w fun e w' => e = .returned (.tuple #[.slice (some ⟨w.heap.size,0,none⟩) (bs.length + s) (bs.length + s),.int .i64 0]) ∧
   ∃ m,w' = (w.alloc (.cells (u8s (bs ++ y0 :: zr)).toArray 5)).drewN m:=by
 have HE : Hid (Calls Tryz.prog 259 #[v,.int .i64 (s : Int)] w fun e w' => e = .returned (.slice (some ⟨w.heap.size,0,none⟩) (bs.length + s) (bs.length + s))∧w' = w.alloc (.cells (u8s (ext bs s)).toArray 5)):=extend_any hv s (by omega)
 have hs0 : ((s : Int) == 0) = false:=by rw [beq_eq_false_iff_ne]; omega
 obtain ⟨a,cap,rfl,h1,h2,h3⟩:=hv
 clear h3
 have hzl:=beL_length n s
 have HZ : Hid (beL n s = z0 :: zr):=hz
 clear hz
 go_enter Tryz.func240,Tryz.ntmps240
 go_wp2_with fail
 refine (size_any _ _).mono ?_
 rintro e wz ⟨rfl,hz'⟩
 subst wz
 go_wp2_with fail
 refine HE.out.mono ?_
 rintro e wz ⟨rfl,hz'⟩
 subst wz
 clear HE
 go_wp2_with fail
 go_loopw [17] (fun i wr => ∃ (k : Nat) (C : Array Value),k ≤ s∧i = .int .i64 k∧wr = w.alloc (.cells C 5)∧C = (u8s (puts bs (beL n s) k)).toArray) (fun i _ => s - (intOf i).toNat)
 case atStart => exact ⟨0,_,Nat.zero_le _,rfl,rfl,by rw [puts_zero,beL_length]⟩
 case round =>
  obtain ⟨k,C,hk,rfl,rfl,hC⟩:=hrel
  by_cases hkn : k < s
  ·have hcell : ∃ x : Int,C[bs.length + k]? = some (.int .u8 x):=⟨_,by rw [hC]; exact u8s_at _ _ (by rw [puts_length bs (beL n s) k (by omega)]; omega)⟩
   obtain ⟨x,hcell⟩:=hcell
   have HC : Hid (C.setIfInBounds (bs.length + k) (.int .u8 ((n : Int) / 2 ^ (8 * (s - 1 - k)) % 256)) = (u8s (puts bs (beL n s) (k + 1))).toArray):=by
    show _ = _
    rw [hC,u8s_set _ _ _ _ (beL_get n s k (by omega)).symm,puts_succ]
   clear hC
   go_wp2
   go_roundw
   case rel => exact ⟨k + 1,_,by omega,by go_num,rfl,HC.out⟩
   case measure => simp [intOf]; omega
  ·have hkk : k = s:=by omega
   subst hkk
   have hC2 : C = (u8s (bs ++ z0 :: zr)).toArray:=by rw [hC,← HZ.out,← puts_all bs (beL n k),beL_length]
   clear hC
   have hcell : C[bs.length]? = some (.int .u8 (z0.toNat : Int)):=by rw [hC2]; rw [u8s_at _ _ (by simp)]; simp
   have HC : Hid (C.setIfInBounds bs.length (.int .u8 (IntKind.u8.wrap ((z0.toNat : Int) + mk))) = (u8s (bs ++ y0 :: zr)).toArray):=by
    show _ = _
    rw [hC2,u8s_set _ _ _ y0 (by rw [IntKind.wrap_u8]; have:=y0.toNat_lt; omega)]
    simp
   clear hC2 HZ hzl
   have hyl : z0.toNat + mk < 256:=by have:=y0.toNat_lt; omega
   clear hy
   go_wp2_with fail
   go_region_with (go_at_call 260; refine (markOf_any _ _).mono ?_; rintro e wz ⟨rfl,hz'⟩; subst wz)
   all_goals
    go_wp2
    go_ret2
    refine ⟨rfl,1, ?_⟩
    rw [HC.out]
    rfl

theorem ofNat_mod (n : Nat) : UInt8.ofNat n = UInt8.ofNat (n % 256):=UInt8.toNat_inj.1 (by simp)

def pkL (n : Nat) : List UInt8 :=
 if n ≤ 127 then [UInt8.ofNat n] else if n ≤ 16383 then [UInt8.ofNat (128 + n / 256),UInt8.ofNat (n % 256)]
 else [UInt8.ofNat (192 + n / 16777216),UInt8.ofNat (n / 65536 % 256),UInt8.ofNat (n / 256 % 256),UInt8.ofNat (n % 256)]

theorem pkL_length (n : Nat) (h : n ≤ 536870911) : ((pkL n).length : Int) = sizeI (n : Int):=by
 unfold pkL sizeI
 split
 ·simp; omega
 ·split
  ·simp; omega
  ·simp; omega

theorem pack_any {v : Value} {bs : List UInt8} {w : World} (hv : Bs w v bs) (hb : bs.length ≤ 281474976710600) (n : Nat) (hn : n ≤ 536870911) :
  Calls Tryz.prog 240 #[v,.int .i64 (n : Int)] w fun e w' => e = .returned (.tuple #[.slice (some ⟨w.heap.size,0,none⟩) (bs.length + (pkL n).length) (bs.length + (pkL n).length),.int .i64 0]) ∧
   ∃ m,w' = (w.alloc (.cells (u8s (bs ++ pkL n)).toArray 5)).drewN m:=by
 have hl:=pkL_length n hn
 by_cases h1 : n ≤ 127
 ·have e1 : pkL n = UInt8.ofNat n :: []:=by simp [pkL,h1]
  rw [e1]
  exact pack_yes hv hb n 1 0 (by rw [← hl,e1]; simp) (by omega) (by omega) (by simp [markI]) (UInt8.ofNat n) (UInt8.ofNat n) [] (by simp [beL]) (by omega)
 ·by_cases h2 : n ≤ 16383
  ·have e1 : pkL n = [UInt8.ofNat (128 + n / 256),UInt8.ofNat (n % 256)]:=by simp [pkL,h1,h2]
   rw [e1]
   exact pack_yes hv hb n 2 128 (by rw [← hl,e1]; simp) (by omega) (by omega) (by simp [markI]) (UInt8.ofNat (n / 256)) _ _ (by simp [beL,List.range_succ]; exact ofNat_mod _) (by simp; omega)
  ·have e1 : pkL n = [UInt8.ofNat (192 + n / 16777216),UInt8.ofNat (n / 65536 % 256),UInt8.ofNat (n / 256 % 256),UInt8.ofNat (n % 256)]:=by simp [pkL,h1,h2]
   rw [e1]
   exact pack_yes hv hb n 4 192 (by rw [← hl,e1]; simp) (by omega) (by omega) (by simp [markI]) (UInt8.ofNat (n / 16777216)) _ _ (by simp [beL,List.range_succ]; exact ⟨ofNat_mod _,ofNat_mod _,ofNat_mod _⟩) (by simp; omega)
theorem bs_lit (w : World) (bs : List UInt8) (C : Array Value) (e : TypeId) (n : Nat) (hC : C = (u8s bs).toArray) (hn : n = bs.length) (hm : bs.length ≤ maxLen) : Bs (w.alloc (.cells C e)) (.slice (some ⟨w.heap.size,0,none⟩) n n) bs:=by
 subst hC hn; exact Bs.made w bs e hm
def leL (x n : Nat) : List UInt8:=(List.range n).map fun k => UInt8.ofNat (x / 2 ^ (8 * k))
theorem leL_length (x n : Nat) : (leL x n).length = n:=by simp [leL]
structure Strm where
 r : List UInt8
 n : List UInt8
 b : List UInt8
 c : List UInt8

def Strm.nil : Strm:=⟨[],[],[],[]⟩
def Strm.part (s : Strm) : Nat → List UInt8
 | 0 => s.r
 | 1 => s.n
 | 2 => s.b
 | _ => s.c
def Strm.put (s : Strm) (k : Nat) (x : List UInt8) : Strm :=
 match k with
 | 0 => ⟨x,s.n,s.b,s.c⟩
 | 1 => ⟨s.r,x,s.b,s.c⟩
 | 2 => ⟨s.r,s.n,x,s.c⟩
 | _ => ⟨s.r,s.n,s.b,x⟩
def tagB : Nat → List UInt8
 | 0 => [82,79,87,83]
 | 1 => [78,65,77,69]
 | 2 => [66,76,79,66]
 | _ => [67,79,68,69]
theorem tagB_length (k : Nat) : (tagB k).length = 4:=by
 match k with
 | 0 => rfl
 | 1 => rfl
 | 2 => rfl
 | _ + 3 => rfl
def magic : List UInt8 := [67,71,82,68]
def numAt (bs : List UInt8) (at_ n : Nat) : Nat:=leN (seg bs at_ n)

def ePlace (i : Nat) : Nat := 8 + 12 * i
def eAt (bs : List UInt8) (i : Nat) : Nat:=numAt bs (ePlace i) 4
def eLen (bs : List UInt8) (i : Nat) : Nat:=numAt bs (ePlace i + 4) 4
def eTag (bs : List UInt8) (i : Nat) : List UInt8:=seg bs (ePlace i + 8) 4

structure SSt where
 s : Strm
 met : List Nat
 ivs : List (Nat × Nat)
def tagOf (met : List Nat) (t : List UInt8) : Option Nat := [0,1,2,3].find? fun j => decide (tagB j = t) && !met.contains j
def shares (ivs : List (Nat × Nat)) (at_ n : Nat) : Bool:=ivs.any fun p => decide (max p.1 at_ < min (p.1 + p.2) (at_ + n))

def entry (bs : List UInt8) (i : Nat) (st : SSt) : Nat ⊕ SSt :=
 match tagOf st.met (eTag bs i) with
 | none => .inl 2
 | some k => if eAt bs i < 56 ∨ eAt bs i % 4 ≠ 0 then .inl 3 else if bs.length < eAt bs i + eLen bs i then .inl 1 else if shares st.ivs (eAt bs i) (eLen bs i) = true then .inl 2
  else .inr ⟨st.s.put k (seg bs (eAt bs i) (eLen bs i)),st.met ++ [k],st.ivs ++ [(eAt bs i,eLen bs i)]⟩

/-! ### joined -/
def up4 (x : Nat) : Nat:=(x + 3) / 4 * 4
def plc (s : Strm) : Nat → Nat
 | 0 => 56
 | k + 1 => up4 (plc s k + (s.part k).length)
def pad (l : List UInt8) : List UInt8:=l ++ List.replicate (up4 l.length - l.length) 0
def bodyTo (s : Strm) : Nat → List UInt8
 | 0 => []
 | k + 1 => pad (bodyTo s k) ++ s.part k
def headTo (s : Strm) : Nat → List UInt8
 | 0 => magic ++ [1,0,4,0]
 | k + 1 => headTo s k ++ (leL (plc s k) 4 ++ (leL (s.part k).length 4 ++ tagB k))
def joinB (s : Strm) : List UInt8:=headTo s 4 ++ bodyTo s 4
theorem up4_le (x : Nat) : x ≤ up4 x∧up4 x ≤ x + 3∧up4 x % 4 = 0:=by unfold up4; omega
theorem pad_length (l : List UInt8) : (pad l).length = up4 l.length:=by have:=up4_le l.length; simp [pad]; omega
theorem plc_mod (s : Strm) (k : Nat) : plc s k % 4 = 0:=by
 cases k with
 | zero => simp [plc]
 | succ k => exact (up4_le _).2.2
theorem body_length (s : Strm) : ∀ k,56 + (pad (bodyTo s k)).length = plc s k
 | 0 => by simp [bodyTo,pad,plc,up4]
 | k + 1 => by
  have ih:=body_length s k
  have hm:=plc_mod s k
  rw [pad_length]
  simp only [bodyTo,List.length_append,plc]
  rw [pad_length] at ih ⊢
  unfold up4 at *
  omega
theorem head_length (s : Strm) : ∀ k,(headTo s k).length = 8 + 12 * k
 | 0 => rfl
 | k + 1 => by
  have ih:=head_length s k
  simp only [headTo,List.length_append,leL_length,tagB_length,ih]
  omega
/-! ### pieces of lists -/
structure Headed (s : Strm) (bs : List UInt8) : Prop where
 hd : bs.take 56 = headTo s 4
 small : ∀ k,k < 4 → plc s k < 4294967296∧(s.part k).length < 4294967296

theorem Headed.split {s : Strm} {bs : List UInt8} (h : Headed s bs) : ∃ c,bs = headTo s 4 ++ c:=⟨bs.drop 56,by rw [← h.hd,List.take_append_drop]⟩

/-! ### what is joined -/
theorem body_part (s : Strm) : ∀ m k,k < m → ∃ a c,bodyTo s m = a ++ (s.part k ++ c)∧56 + a.length = plc s k
 | 0,k,h => by omega
 | m + 1,k,h => by
  by_cases e : k = m
  ·subst e
   exact ⟨pad (bodyTo s k),[],by simp [bodyTo],body_length s k⟩
  ·obtain ⟨a,c,h1,h2⟩:=body_part s m k (by omega)
   exact ⟨a,c ++ (List.replicate (up4 (bodyTo s m).length - (bodyTo s m).length) 0 ++ s.part m),by simp only [bodyTo,pad]; rw [h1]; simp,h2⟩

theorem join_part (s : Strm) (k : Nat) (h : k < 4) : ∃ a c,joinB s = a ++ (s.part k ++ c)∧a.length = plc s k:=by
 obtain ⟨a,c,h1,h2⟩:=body_part s 4 k h
 exact ⟨headTo s 4 ++ a,c,by unfold joinB; rw [h1]; simp,by simp [head_length]; omega⟩

structure Room (s : Strm) : Prop where
 le : (joinB s).length ≤ 65536

theorem Room.small {s : Strm} (h : Room s) : ∀ k,k < 4 → plc s k < 4294967296∧(s.part k).length < 4294967296:=by
 intro k hk
 obtain ⟨a,c,h1,h2⟩:=join_part s k hk
 have:=h.le
 rw [h1] at this
 simp at this
 omega
/-! ### read -/
structure Tabs where
 entry : Int
 rows : List (List (List Int))
def Tabs.nil : Tabs:=⟨0,[]⟩
/-! ### written -/
/-! ### there and back -/
def codeI (table row : Int) : Int:=if table = -1 then 0 else if table ≠ 0∧table ≠ 4 then 0 else if row < 1 ∨ 16383 < row then 0 else row * 4 + (if table = 4 then 2 else 0)
def codeE (table row : Int) : Int:=if table = -1 then 0 else if table ≠ 0∧table ≠ 4 then 17 else if row < 1 ∨ 16383 < row then 3 else 0
def codedT (x : Int) : Int:=if x = 0 then -1 else if x < 4 ∨ 65535 < x ∨ x % 2 = 1 then 0 else if x % 4 = 2 then 4 else 0
def codedR (x : Int) : Int:=if x = 0 then 0 else if x < 4 ∨ 65535 < x ∨ x % 2 = 1 then 0 else x / 4
def codedE (x : Int) : Int:=if x = 0 then 0 else if x < 4 ∨ 65535 < x ∨ x % 2 = 1 then 5 else 0
theorem code_any (table row : Int) (w : World) :
  Calls Tryz.prog 239 #[.int .i64 table,.int .i64 row] w fun e w' => e = .returned (.tuple #[.int .i64 (codeI table row),.int .i64 (codeE table row)])∧w' = w:=by
 go_enter Tryz.func239,Tryz.ntmps239
 go_wp2
 all_goals (go_ret2; exact ⟨ret_int2 (by (try simp only [beq_iff_eq,beq_eq_false_iff_ne,ne_eq,bne_iff_ne,bne_eq_false_iff_eq] at *); unfold codeI; (repeat' split) <;> omega) (by (try simp only [beq_iff_eq,beq_eq_false_iff_ne,ne_eq,bne_iff_ne,bne_eq_false_iff_eq] at *); unfold codeE; (repeat' split) <;> omega),rfl⟩)
def markU (k : Int) : UInt8:=if k = 1 then 1 else if k = 2 then 8 else if k = 3 then 10 else if k = 4 then 28 else if k = 5 then 18 else if k = 6 then 17 else if k = 7 then 19 else 0
def numL (k i : Int) : List UInt8:=if k = 5 ∨ k = 6 then pkL (4 * (i.toNat + 1)) else if k = 7 then pkL i.toNat else []
def headL (r : Bool) : List UInt8:=if r then [16] else []
def encB (k i d : Int) (r : Bool) : List UInt8:=headL r ++ (List.replicate d.toNat 29 ++ (markU k :: numL k i))
def encT (t : Ty) : List UInt8:=encB t.1 t.2.1 t.2.2.1 t.2.2.2

def badR (e : Nat) : Ty × Nat × Nat:=((0,0,0,false),0,e)
def numR (bs : List UInt8) (r : Bool) (j c a : Nat) : Ty × Nat × Nat :=
 if (unp bs a).2.2 ≠ 0 then badR (unp bs a).2.2
 else if c = 19 then (if 7 < (unp bs a).1 then badR 5 else ((7,((unp bs a).1 : Int),(j : Int),r),a + (unp bs a).2.1,0))
 else if codedE ((unp bs a).1 : Int) ≠ 0 ∨ codedT ((unp bs a).1 : Int) ≠ 0 ∨ 32 < codedR ((unp bs a).1 : Int) then badR 5
 else ((if c = 17 then 6 else 5,codedR ((unp bs a).1 : Int) - 1,(j : Int),r),a + (unp bs a).2.1,0)
def tailR (bs : List UInt8) (r : Bool) (j c a : Nat) : Ty × Nat × Nat :=
 if c = 1 then (if r = true ∨ 0 < j then badR 2 else ((1,0,0,false),a,0))
 else if c = 8 then ((2,0,(j : Int),r),a,0)
 else if c = 10 then ((3,0,(j : Int),r),a,0)
 else if c = 28 then ((4,0,(j : Int),r),a,0)
 else if c = 17 ∨ c = 18 ∨ c = 19 then numR bs r j c a
 else badR 2
def getD (bs : List UInt8) (r : Bool) : Nat → Nat → Ty × Nat × Nat
 | 0,a => if h : a < bs.length then (if bs[a].toNat = 29 then badR 6 else tailR bs r 3 bs[a].toNat (a + 1)) else badR 1
 | n + 1,a => if h : a < bs.length then (if bs[a].toNat = 29 then getD bs r n (a + 1) else tailR bs r (2 - n) bs[a].toNat (a + 1)) else badR 1
theorem plain_facts {k i d : Int} {r : Bool} (h : plainB k i d r = true) : 0 ≤ d∧d ≤ 3∧0 ≤ i∧(k = 1∧d = 0∧r = false∧i = 0 ∨ (k = 2 ∨ k = 3 ∨ k = 4)∧i = 0 ∨ (k = 5 ∨ k = 6)∧i < 32 ∨ k = 7∧i ≤ 7):=by
 unfold plainB at h
 exact of_decide_eq_true h
theorem markOf5_any (k : Int) (w : World) :
  Calls Tryz.prog 238 #[.int .i64 k] w fun e w' => e = .returned (.int .u8 ((markU k).toNat : Int))∧w' = w:=by
 go_enter Tryz.func238,Tryz.ntmps238
 go_wp2
 all_goals go_ret
 all_goals refine ⟨ret_int ?_,rfl⟩
 all_goals simp only [beq_iff_eq,beq_eq_false_iff_ne,ne_eq] at *
 all_goals (simp [markU, *])

theorem run_enter {P : Program} {f : FuncId} {fn : Func} {c : Code} (hf : P.funcs[f]? = some fn) (hname : (fn.name == "runtime.NumGoroutine") = false) (hb : fn.body = some c) (args : Array Value) (w : World) :
  (callFunc f args).run P w = .ok (.enter f args) w:=by
 have h1 : ¬ fn.name = "runtime.NumGoroutine" := by simpa using hname
 simp [callFunc,hf,h1,hb]

structure Rule (f : FuncId) (p : Nat) : Prop where
 enter : ∀ args w,(callFunc f args).run Tryz.prog w = .ok (.enter f args) w
 may : ∀ k i d r w,Calls Tryz.prog f #[.agg #[.int .i64 k,.int .i64 i,.int .i64 d,.bool r]] w fun e w' => e = .returned (.bool (mayB p k i d r))∧Below w.heap.size w w'
 plain : ∀ k i d r,mayB p k i d r = true → plainB k i d r = true

theorem rule_field : Rule 217 1:=⟨run_enter Tryz.func217 (by kernel_rfl) rfl,fun k i d r w => isField_any k i d r w,fun k i d r h => by simp [mayB] at h; exact h.1.1⟩
theorem rule_var : Rule 221 2:=⟨run_enter Tryz.func221 (by kernel_rfl) rfl,fun k i d r w => isVariable_any k i d r w,fun k i d r h => by simp [mayB] at h; exact h.1⟩
theorem rule_answer : Rule 219 3:=⟨run_enter Tryz.func219 (by kernel_rfl) rfl,fun k i d r w => isAnswer_any k i d r w,fun k i d r h => by simp [mayB] at h; exact h.1⟩
def TyAt (w : World) (g : Nat) (k i d : Int) (r : Bool) : Prop:=w.heap[g]? = some (.cells #[.int .i64 k,.int .i64 i,.int .i64 d,.bool r] 51 (0,0))

theorem TyAt.cells {w : World} {g : Nat} {k i d : Int} {r : Bool} (h : TyAt w g k i d r) :
  w.cell? ⟨g,0,none⟩ = some (.int .i64 k)∧w.cell? ⟨g,1,none⟩ = some (.int .i64 i)∧w.cell? ⟨g,2,none⟩ = some (.int .i64 d)∧w.cell? ⟨g,3,none⟩ = some (.bool r):=by
 unfold TyAt at h
 simp [World.cell?,h]
theorem TyAt.lt {w : World} {g : Nat} {k i d : Int} {r : Bool} (h : TyAt w g k i d r) : g < w.heap.size:=(Array.getElem?_eq_some_iff.1 h).1
theorem TyAt.below {w w' : World} {g B : Nat} {k i d : Int} {r : Bool} (h : TyAt w g k i d r) (hb : Below B w w') (hg : g < B) : TyAt w' g k i d r:=by
 unfold TyAt at h ⊢
 rw [hb.block g hg]; exact h
theorem TyAt.later {w w' : World} {g : Nat} {k i d : Int} {r : Bool} (h : TyAt w g k i d r) (hb : Below w.heap.size w w') : TyAt w' g k i d r:=h.below hb h.lt
theorem TyAt.only {w w' : World} {g rb : Nat} {k i d : Int} {r : Bool} (h : TyAt w g k i d r) (ho : Only rb w w') (hg : g ≠ rb) : TyAt w' g k i d r:=by
 have:=h.lt
 unfold TyAt at h ⊢
 rw [ho.block g this hg]; exact h
theorem At.only {w w' : World} {g rb : Nat} {C : Array Value} {t : TypeId} (h : At w g C t) (ho : Only rb w w') (hg : g ≠ rb) : At w' g C t:=by
 have:=h.lt
 unfold At at h ⊢
 rw [ho.block g this hg]; exact h
theorem TyAt.at {w : World} {g : Nat} {k i d : Int} {r : Bool} (h : TyAt w g k i d r) : At w g #[.int .i64 k,.int .i64 i,.int .i64 d,.bool r] 51:=h
def Sl (w : World) (v : Value) (xs : List Value) : Prop :=
 ∃ a cap,v = .slice a xs.length cap∧xs.length ≤ cap∧cap ≤ maxLen ∧
  (xs ≠ [] → ∃ b off,a = some ⟨b,off,none⟩∧b < w.heap.size∧∀ i (h : i < xs.length),w.cell? ⟨b,off + i,none⟩ = some xs[i])

theorem Sl.nil (w : World) : Sl w (.slice none 0 0) []:=⟨none,0,rfl,Nat.le_refl _,Nat.zero_le _,fun h => absurd rfl h⟩
theorem Sl.len {w : World} {v : Value} {xs : List Value} (h : Sl w v xs) : xs.length ≤ maxLen:=by
 obtain ⟨a,cap,_,h1,h2,_⟩:=h; omega
theorem Sl.of_block {w w' : World} {v : Value} {xs : List Value} (h : Sl w v xs) (hs : w.heap.size ≤ w'.heap.size) (hk : ∀ k,v.ownBlock = some k → k < w.heap.size → w'.heap[k]? = w.heap[k]?) : Sl w' v xs:=by
 obtain ⟨a,cap,rfl,h1,h2,h3⟩:=h
 refine ⟨a,cap,rfl,h1,h2,fun hne => ?_⟩
 obtain ⟨b,off,rfl,hb,hc⟩:=h3 hne
 refine ⟨b,off,rfl,by omega,fun i hi => ?_⟩
 rw [← hc i hi]
 exact World.cell?_of_block (hk b rfl hb)
theorem Sl.later {w w' : World} {v : Value} {xs : List Value} (h : Sl w v xs) (hb : Below w.heap.size w w') : Sl w' v xs :=
 h.of_block hb.size fun k _ hk => hb.block k hk
theorem Sl.below {w w' : World} {v : Value} {xs : List Value} {B : Nat} (h : Sl w v xs) (hb : Below B w w') (hk : ∀ k,v.ownBlock = some k → k < B) : Sl w' v xs :=
 h.of_block hb.size fun k hv _ => hb.block k (hk k hv)
theorem Sl.bs {w : World} {v : Value} {bs : List UInt8} (h : Sl w v (u8s bs)) : Bs w v bs:=by
 obtain ⟨a,cap,rfl,h1,h2,h3⟩:=h
 rw [u8s_length] at h1
 refine ⟨a,cap,by rw [u8s_length],h1,h2,fun hne => ?_⟩
 obtain ⟨b,off,rfl,hb,hc⟩:=h3 (by intro e; simp [u8s] at e; exact hne e)
 refine ⟨b,off,rfl,hb,fun i hi => ?_⟩
 rw [hc i (by rw [u8s_length]; exact hi)]; simp [u8s]

theorem Sl.made (w : World) (xs : List Value) (C : Array Value) (e : TypeId) (n : Nat) (hC : C = xs.toArray) (hn : n = xs.length) (hm : xs.length ≤ maxLen) : Sl (w.alloc (.cells C e)) (.slice (some ⟨w.heap.size,0,none⟩) n n) xs:=by
 subst hC hn
 refine ⟨_,_,rfl,Nat.le_refl _,hm,fun _ => ⟨_,_,rfl,by simp,fun i hi => ?_⟩⟩
 rw [Nat.zero_add,World.cell?_alloc_at _ _ _ _ rfl]
 simp [List.getElem?_eq_getElem hi]

theorem Sl.src {P : Program} {w : World} {y : Value} {ys : List Value} (h : Sl w y ys) {tx e' : TypeId} (hk : P.underlying tx = some (.slice e')) (h1 : ∀ u ∈ ys,u.oneCell' = true) : Src P 1 tx y ys.length ys w:=by
 obtain ⟨a,cap,rfl,g1,g2,g3⟩:=h
 cases a with
 | none =>
  have hys : ys = []:=by
   by_cases h : ys = []
   ·exact h
   ·obtain ⟨b,off,hh,_⟩:=g3 h; simp at hh
  subst hys
  exact Src.ofNil w hk cap
 | some ad =>
  refine Src.ofSlice w hk ad ys.length cap ys (by omega) ?_ h1
  intro j u hj
  have hjl:=(List.getElem?_eq_some_iff.1 hj).1
  obtain ⟨b,off,hh,_,hc⟩:=g3 (by intro e; subst e; simp at hjl)
  simp only [Option.some.injEq] at hh
  subst hh
  have hplain : (⟨b,off,none⟩ : Addr).add j = ⟨b,off + j,none⟩:=by unfold Addr.add; split <;> simp_all
  rw [hplain,hc j hjl,← (List.getElem?_eq_some_iff.1 hj).2]

def OwnV (w : World) (base : Nat) (e : TypeId) (v : Value) (xs : List Value) : Prop:=w.ownsRow base e 1 v xs.length xs

theorem Own.v {w : World} {base : Nat} {e : TypeId} {v : Value} {xs : List UInt8} (h : Own w base e v xs) : OwnV w base e v (u8s xs):=by
 unfold OwnV; rw [u8s_length]; exact h
theorem OwnV.own {w : World} {base : Nat} {e : TypeId} {v : Value} {xs : List UInt8} (h : OwnV w base e v (u8s xs)) : Own w base e v xs:=by
 unfold OwnV at h; rw [u8s_length] at h; exact h
theorem OwnV.sl {w : World} {base : Nat} {e : TypeId} {v : Value} {xs : List Value} (h : OwnV w base e v xs) : Sl w v xs:=by
 obtain ⟨h1,h2⟩:=h
 rcases h2 with ⟨rfl,h0⟩ | ⟨g,cap,cur,rfl,hg,hh,hn,hm,hs,ht⟩
 ·have : xs = []:=List.eq_nil_of_length_eq_zero h0
  subst this; exact Sl.nil w
 ·refine ⟨_,cap,rfl,hn,hm,fun _ => ⟨g,0,rfl,(Array.getElem?_eq_some_iff.1 hh).1,fun i hi => ?_⟩⟩
  have : (cur.toList.take (xs.length * 1))[i]? = some xs[i]:=by rw [ht]; exact List.getElem?_eq_getElem hi
  simp only [World.cell?,hh]
  rw [List.getElem?_take,if_pos (by omega)] at this
  simpa using this
theorem OwnV.block {w : World} {base : Nat} {e : TypeId} {v : Value} {xs : List Value} (h : OwnV w base e v xs) : ∀ k,v.ownBlock = some k → base ≤ k∧k < w.heap.size:=World.ownsRow.lt h
theorem OwnV.of_block {w w' : World} {base : Nat} {e : TypeId} {v : Value} {xs : List Value} (h : OwnV w base e v xs) (hb : ∀ k,v.ownBlock = some k → k < w.heap.size → w'.heap[k]? = w.heap[k]?) : OwnV w' base e v xs:=by
 obtain ⟨h1,h2⟩:=h
 refine ⟨h1, ?_⟩
 rcases h2 with h2 | ⟨g,cap,cur,rfl,hg,hh,r⟩
 ·exact Or.inl h2
 ·exact Or.inr ⟨g,cap,cur,rfl,hg,by rw [hb g rfl (Array.getElem?_eq_some_iff.1 hh).1]; exact hh,r⟩
theorem OwnV.later {w w' : World} {base : Nat} {e : TypeId} {v : Value} {xs : List Value} (h : OwnV w base e v xs) (hb : Below w.heap.size w w') : OwnV w' base e v xs :=
 h.of_block fun k _ hk => hb.block k hk
theorem OwnV.typed {w : World} {base : Nat} {e : TypeId} {v : Value} {xs : List Value} (h : OwnV w base e v xs) : ∀ k,v.ownBlock = some k → ∃ C,w.heap[k]? = some (.cells C e (0,0)):=by
 intro k hk
 rcases h.2 with ⟨rfl,_⟩ | ⟨g,cap,cur,rfl,hg,hh,r⟩
 ·simp [Value.ownBlock] at hk
 ·simp [Value.ownBlock] at hk; subst hk; exact ⟨cur,hh⟩
theorem OwnV.nil (w : World) (base : Nat) (e : TypeId) : OwnV w base e (.slice none 0 0) []:=World.ownsRow_nil w base e 1
theorem OwnV.lit (w : World) (base : Nat) (e : TypeId) (xs : List Value) (C : Array Value) (n : Nat) (hb : base ≤ w.heap.size) (hC : C = xs.toArray) (hn : n = xs.length) (hm : xs.length ≤ maxLen) :
  OwnV (w.alloc (.cells C e)) base e (.slice (some ⟨w.heap.size,0,none⟩) n n) xs:=by
 subst hC hn
 have:=World.ownsRow_lit (base:=base) (e:=e) (size := 1) w xs.toArray xs.length hb hm (by simp)
 unfold OwnV
 simpa using this

theorem run_append_at {P : Program} (w : World) (base : Nat) (t tx ty e : TypeId) (i : TypeInfo) (z : Value) (ht : P.underlying t = some (.slice e)) (hi : P.info? e = some i) (hz : i.zero = some z) (hs1 : i.size = 1) (hzs : z.cells.size = 1)
  {v y : Value} {xs news : List Value} {n : Nat} (hv : OwnV w base e v xs) (hs : Src P 1 tx y n news w) (h63 : xs.length + n ≤ maxLen) (hbytes : ((xs.length + n) + (xs.length + n) / 4 + 192) * i.bytes ≤ 281474976710656) (hbase : base ≤ w.heap.size) :
  ∃ v' w',(Builtin.append_ #[t,tx] ty #[v,y]).run P w = .ok v' w'∧OwnV w' base e v' (xs ++ news)∧w.grownBy w' v.ownBlock∧(v'.ownBlock = v.ownBlock ∨ v'.ownBlock = some w.heap.size)∧w'.heap.size ≤ w.heap.size + 1:=by
 have hnl : news.length = n:=by have:=hs.newsLen; omega
 have h63i : ((xs.length + n : Nat) : Int) ≤ 9223372036854775807:=by simp only [maxLen] at h63; omega
 have hlen : (xs ++ news).length = xs.length + n:=by rw [List.length_append,hnl]
 have grown : ∀ (old : Nat),old < xs.length + n →
   OwnV (w.drew.alloc (.cells ((xs ++ news).toArray ++ Builtin.zeroCells z.cells (grownCap w (xs.length + n) old e - (xs.length + n))) e)) base e
    (.slice (some ⟨w.heap.size,0,none⟩) (xs.length + n) (grownCap w (xs.length + n) old e)) (xs ++ news):=by
  intro old ho
  have hge:=grownCap_ge w (xs.length + n) old e
  have hcm : grownCap w (xs.length + n) old e ≤ maxLen:=grownCap_le_maxLen w (xs.length + n) old e h63
  refine ⟨by omega,.inr ⟨w.heap.size,_,_,by rw [hlen],hbase,heap_alloc_new w.drew _,by rw [hlen]; exact hge,hcm, ?_, ?_⟩⟩
  ·simp only [Array.size_append,List.size_toArray,size_zeroCells,hzs,hlen]; omega
  ·rw [show (xs ++ news).length * 1 = (xs ++ news).length by omega,Array.toList_append]
   exact List.take_left
 have hgb : ∀ row C,w.grownBy (w.drew.alloc (.cells C e)) row:=fun row C => ⟨rfl,rfl,rfl,by simp,fun k hk _ => heap_alloc_old w.drew _ hk⟩
 rcases hv.2 with ⟨rfl,h0⟩ | ⟨g,cap,cur,rfl,hbg,hg,hnc,hcm,hcs,htake⟩
 ·have hx : xs = []:=List.eq_nil_of_length_eq_zero h0
  subst hx
  by_cases hm : n = 0
  ·subst hm
   have hn : news = []:=List.eq_nil_of_length_eq_zero hnl
   subst hn
   refine ⟨.slice none 0 0,w, ?_,OwnV.nil w base e,⟨rfl,rfl,rfl,Nat.le_refl _,fun _ _ _ => rfl⟩,.inl rfl,by omega⟩
   have hc:=hs.cells
   rcases hs.kind with ⟨e',hk⟩ | hk <;> simp [Builtin.append_,run_underlying ht,run_underlying hk,sizeOf,typeInfo,hi,hs1,hs.len,hc]
  ·have hr:=run_append_grow_src (P:=P) w t tx ty e i z ht hi hz none 0 0 [] (by simp [Builtin.firstCells]) y n news (by rw [hs1]; exact hs) (by omega) (by simpa using h63i) (growslice_fits_wide (by omega) (by simpa using hbytes))
   have hgr:=grown 0 (by simp; omega)
   simp only [List.length_nil] at hgr
   exact ⟨_,_,hr,hgr,hgb _ _,.inr rfl,by simp⟩
 ·by_cases hroom : xs.length + n ≤ cap
  ·have hfit : xs.length * i.size + news.length ≤ cur.size:=by rw [hs1,hcs,hnl]; omega
   have hst:=run_storeCells_at P g (xs.length * i.size) e news 0 cur w hg (by simpa using hfit) hs.one
   simp only [Nat.add_zero] at hst
   have hr : (Builtin.append_ #[t,tx] ty #[.slice (some ⟨g,0,none⟩) xs.length cap,y]).run P w = .ok (.slice (some ⟨g,0,none⟩) (xs.length + n) cap) (w.setRow g (cur.toList.take (xs.length * i.size) ++ news ++ cur.toList.drop (xs.length * i.size + news.length)).toArray):=by
    have hc:=hs.cells
    rw [hs1] at hst ⊢
    simp only [Nat.mul_one] at hst ⊢
    rcases hs.kind with ⟨e',hk⟩ | hk <;> simp [Builtin.append_,run_underlying ht,run_underlying hk,sizeOf,typeInfo,hi,hs1,hs.len,hc,hroom,Addr.add_lit,hst]
   refine ⟨_,_,hr,⟨by omega,.inr ⟨g,cap,_,by rw [hlen],hbg,setRow_heap w g cur _ e _ hg,by rw [hlen]; exact hroom,hcm, ?_, ?_⟩⟩,⟨rfl,rfl,rfl,by simp,fun k _ hk => setRow_other w g k _ (fun e => hk (by simp [Value.ownBlock,e]))⟩,.inl rfl,by simp⟩
   ·simp only [List.size_toArray,List.length_append,List.length_take,List.length_drop,Array.length_toList,hs1]
    omega
   ·rw [hs1,htake,Nat.mul_one]
    exact List.take_left
  ·have hold : (Builtin.firstCells i.size xs.length (.slice (some ⟨g,0,none⟩) xs.length cap)).run P w.drew = .ok xs.toArray w.drew:=by
    rw [hs1]
    refine run_firstCells_some w.drew 1 xs.length ⟨g,0,none⟩ xs.length cap xs (by omega) ?_
    intro j u hj
    exact World.ownsRow.cells (w:=w.drew) (base:=base) (e:=e) (size := 1) (v := .slice (some ⟨g,0,none⟩) xs.length cap) (n:=xs.length) (xs:=xs) hv (g:=g) rfl j u hj
   have hr:=run_append_grow_src (P:=P) w t tx ty e i z ht hi hz (some ⟨g,0,none⟩) xs.length cap xs hold y n news (by rw [hs1]; exact hs) (by omega) h63i (growslice_fits_wide (by omega) hbytes)
   exact ⟨_,_,hr,grown cap (by omega),hgb _ _,.inr rfl,by simp⟩

theorem wpList_append_at {P : Program} {ops : Array Oper} {Q : Exit → Act → World → Prop} {a : Act} {w : World} {rest : List Oper} {o : Oper} (hw : Region.wanted o (yielded ops a.tmps) = true) (s x : Operand) (t tx : TypeId)
  (ho : o.op = .call { callee := .builtin .append,args:=#[s,x],argTypes:=#[t,tx] }) (base : Nat) (e : TypeId) (z : Value) (bytes : Nat) (ht : P.underlying t = some (.slice e)) (hinfo : (P.info? e).map (fun i => (i.zero,i.size,i.bytes)) = some (some z,1,bytes)) (hzs : z.cells.size = 1)
  {v y : Value} {xs news : List Value} {n : Nat} (hs : a.eval s = v) (hx : a.eval x = y) (hv : OwnV w base e v xs) (hy : Src P 1 tx y n news w) (h63 : xs.length + n ≤ maxLen) (hb : ((xs.length + n) + (xs.length + n) / 4 + 192) * bytes ≤ 281474976710656) (hbase : base ≤ w.heap.size)
  (h : ∀ v' w',OwnV w' base e v' (xs ++ news) → w.grownBy w' v.ownBlock → (v'.ownBlock = v.ownBlock ∨ v'.ownBlock = some w.heap.size) → w'.heap.size ≤ w.heap.size + 1 → wpList P ops Q rest (a.put o.dst v') w') : wpList P ops Q (o :: rest) a w:=by
 refine wpList_want hw fun K hK => ?_
 obtain ⟨i,hi,hz0,hz1,hz2⟩:=info_parts hinfo
 subst hz2
 obtain ⟨v',w',hr,h2,h3,h4,h5⟩:=run_append_at (P:=P) w base t tx o.type e i z ht hi hz0 hz1 hzs hv hy h63 hb hbase
 unfold Oper.wp execOp
 simp only [ho,resolve,invoke,builtin,Sem.run_bind,Sem.run_pure,Result.andThen_ok,List.map_toArray,List.map_cons,List.map_nil,hs,hx,hr]
 exact hK _ _ (h v' w' h2 h3 h4 h5)
end Go.Proofs.YthpmpdpfnlecmaaGreat
