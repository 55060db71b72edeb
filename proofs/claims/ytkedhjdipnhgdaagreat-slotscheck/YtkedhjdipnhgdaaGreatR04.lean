import Derived.Test.YtkedhjdipnhgdaaGreatR03
import Derived.Deep.DrawnRows
import Derived.Laws.EntriesVeiled
import Derived.Deep.RegionWith
import Derived.Laws.DeepStrings4
namespace Go.Proofs.YtkedhjdipnhgdaaGreat
set_option maxHeartbeats 16000000
set_option linter.all false
open RowKit
attribute [local go_sem ↓] wp_at_zero wp_at_succ
def clC (c:Cl):List Value:=[.int .i64 c.k,.int .i64 c.tf,.int .i64 c.tt,.int .i64 c.hf,.int .i64 c.ht,.int .i64 c.fi,.int .i64 c.t0,.int .i64 c.t1,.int .i64 c.t2,.bool c.t3]
def zci:Enc Cl:=⟨clC,10,by decide,λ_=>rfl,λx u hu=>by
 simp only[clC,List.mem_cons,List.not_mem_nil,or_false]at hu
 rcases hu with rfl | rfl | rfl | rfl | rfl | rfl | rfl | rfl | rfl | rfl <;> rfl⟩
def spC (s:Sp):List Value:=[.int .i64 s.1,.int .i64 s.2]
def spE:Enc Sp:=⟨spC,2,by decide,λ_=>rfl,λx u hu=>by
 simp only[spC,List.mem_cons,List.not_mem_nil,or_false]at hu
 rcases hu with rfl | rfl <;> rfl⟩
def clV (c:Cl):Value:=.agg #[.int .i64 c.k,.int .i64 c.tf,.int .i64 c.tt,.int .i64 c.hf,.int .i64 c.ht,.int .i64 c.fi,.int .i64 c.t0,.int .i64 c.t1,.int .i64 c.t2,.bool c.t3]
def zcV (s:Sp):Value:=.agg #[.int .i64 s.1,.int .i64 s.2]
def Ten (w:World) (b o:Nat) (c:Cl):Prop:=w.cell? ⟨b,o,none⟩=some (.int .i64 c.k)/\w.cell? ⟨b,o+1,none⟩=some (.int .i64 c.tf)/\w.cell? ⟨b,o+2,none⟩=some (.int .i64 c.tt)/\w.cell? ⟨b,o+3,none⟩=some (.int .i64 c.hf) /\
 w.cell? ⟨b,o+4,none⟩=some (.int .i64 c.ht)/\w.cell? ⟨b,o+5,none⟩=some (.int .i64 c.fi)/\w.cell? ⟨b,o+6,none⟩=some (.int .i64 c.t0)/\w.cell? ⟨b,o+7,none⟩=some (.int .i64 c.t1)/\w.cell? ⟨b,o+8,none⟩=some (.int .i64 c.t2)/\w.cell? ⟨b,o+9,none⟩=some (.bool c.t3)
def zxv (w:World) (b o:Nat) (s:Sp):Prop:=w.cell? ⟨b,o,none⟩=some (.int .i64 s.1)/\w.cell? ⟨b,o+1,none⟩=some (.int .i64 s.2)
theorem El.ten {w:World} {b o:Nat} {c:Cl} (h:El zci w b o c):Ten w b o c:=
 ⟨h 0 _ rfl,h 1 _ rfl,h 2 _ rfl,h 3 _ rfl,h 4 _ rfl,h 5 _ rfl,h 6 _ rfl,h 7 _ rfl,h 8 _ rfl,h 9 _ rfl⟩
theorem El.two {w:World} {b o:Nat} {s:Sp} (h:El spE w b o s):zxv w b o s:=⟨h 0 _ rfl,h 1 _ rfl⟩
theorem zeH (c:Cl) (w:World) :
 Calls Tryz.prog 235 #[clV c] w λe w'=>e=.returned (zcV (zcI c))/\Below w.heap.size w w':=by
 unfold clV;have hb0:Hid (Below w.heap.size w (w.alloc (.cells (clC c).toArray 85))):=(Below.refl _ _).alloc (Nat.le_refl _) _;go_enter Tryz.func235,Tryz.ntmps235;go_wp2;exact bodyPost_ret (v:=zcV (zcI c)) (by simp[results,Tryz.results235,go_sem,zcV,zcI]) rfl ⟨rfl,hb0.out.alloc (by simp) _⟩
theorem zdE (c:Cl) (w:World) :
 Calls Tryz.prog 236 #[clV c] w λe w'=>e=.returned (zcV (zex c))/\Below w.heap.size w w':=by
 unfold clV;have hb0:Hid (Below w.heap.size w (w.alloc (.cells (clC c).toArray 85))):=(Below.refl _ _).alloc (Nat.le_refl _) _;go_enter Tryz.func236,Tryz.ntmps236;go_wp2;exact bodyPost_ret (v:=zcV (zex c)) (by simp[results,Tryz.results236,go_sem,zcV,zex]) rfl ⟨rfl,hb0.out.alloc (by simp) _⟩
theorem zd5 (c:Cl) (w:World) :
 Calls Tryz.prog 237 #[clV c] w λe w'=>e=.returned (zcV (zgd c))/\Below w.heap.size w w':=by
 unfold clV;have hb0:Hid (Below w.heap.size w (w.alloc (.cells (clC c).toArray 85))):=(Below.refl _ _).alloc (Nat.le_refl _) _;go_enter Tryz.func237,Tryz.ntmps237;go_wp2;exact bodyPost_ret (v:=zcV (zgd c)) (by simp[results,Tryz.results237,go_sem,zcV,zgd]) rfl ⟨rfl,hb0.out.alloc (by simp) _⟩
theorem zbS (s o:Sp) (w:World) :
 Calls Tryz.prog 243 #[zcV s,zcV o] w λe w'=>e=.returned (.bool (zbK s o))/\Below w.heap.size w w':=by
 have hb0:Hid (Below w.heap.size w ((w.alloc (.cells (spC s).toArray 199)).alloc (.cells (spC o).toArray 199))):=((Below.refl _ _).alloc (Nat.le_refl _) _).alloc (by simp) _
 unfold zcV;go_enter Tryz.func243,Tryz.ntmps243;go_wp2
 all_goals go_ret
 all_goals refine⟨zab ?_,hb0.out⟩
 all_goals (simp_all[zbK] <;> omega)
theorem zkC (s o:Sp) (w:World) :
 Calls Tryz.prog 244 #[zcV s,zcV o] w λe w'=>e=.returned (.bool (zeV s o))/\Below w.heap.size w w':=by
 have hb0:Hid (Below w.heap.size w ((w.alloc (.cells (spC s).toArray 199)).alloc (.cells (spC o).toArray 199))):=((Below.refl _ _).alloc (Nat.le_refl _) _).alloc (by simp) _
 unfold zcV;go_enter Tryz.func244,Tryz.ntmps244;go_wp2
 all_goals go_ret
 all_goals refine⟨zab ?_,hb0.out⟩
 all_goals (rw[Bool.eq_iff_iff,zaW];simp only[decide_eq_true_eq];(repeat' split) <;> omega)
theorem zaa {w w1 w2:World} (h:Below w.heap.size w w1) (h2:Below w1.heap.size w1 w2):Below w.heap.size w w2:=h.trans (h2.mono h.size)
theorem zad (w:World):Below w.heap.size w w.drew:=Below.drewN (Below.refl w.heap.size w) 1
theorem zbN {w w1:World} (h:Below w.heap.size w w1) (o:Obj):Below w.heap.size w (w1.alloc o):=h.alloc h.size o
theorem Tryz.infoSpan:(Tryz.prog.info? 199).map (λi=>(i.zero,i.size,i.bytes))=some (some (.agg #[.int .i64 0,.int .i64 0]),2,16):=by kernel_rfl
theorem At.ten {w:World} {g:Nat} {c:Cl} (h:At w g (clC c).toArray 85):Ten w g 0 c:=
 ⟨h.cell 0,h.cell 1,h.cell 2,h.cell 3,h.cell 4,h.cell 5,h.cell 6,h.cell 7,h.cell 8,h.cell 9⟩
theorem zfd (c:Cl) (w:World) :
 Calls Tryz.prog 219 #[clV c] w λe w'=>∃ v,e=.returned v/\OwnE spE w' w.heap.size 199 v (zaj c)/\Below w.heap.size w w':=by
 obtain⟨w0,hw0⟩:∃ W,W=w.alloc (.cells #[.int .i64 c.k,.int .i64 c.tf,.int .i64 c.tt,.int .i64 c.hf,.int .i64 c.ht,.int .i64 c.fi,.int .i64 c.t0,.int .i64 c.t1,.int .i64 c.t2,.bool c.t3] 85):=⟨_,rfl⟩;have HW0:Hid (w0=_):=hw0;have HB0:Hid (Below w.heap.size w w0):=by rw[hw0];exact (Below.refl _ _).alloc (Nat.le_refl _) _
 have hA:At w0 w.heap.size (clC c).toArray 85:=by rw[hw0];exact At.made w (clC c).toArray _
 have HK:Hid (∀ w',Below w0.heap.size w0 w'->Ten w' w.heap.size 0 c):=λw' hb=>(hA.later hb).ten
 have HA:Hid (At w0 w.heap.size (clC c).toArray 85):=hA;have HV:Hid (∀ w',Below w.heap.size w w'->OwnE spE (w'.alloc (.cells #[.int .i64 c.tf,.int .i64 c.tt,.int .i64 c.hf,.int .i64 c.ht] 199)) w.heap.size 199 (.slice (some ⟨w'.heap.size,0,none⟩) 2 2) [zcI c,zex c]):=λw' hb=>OwnE.lit spE w' w.heap.size 199 [zcI c,zex c] _ 2 hb.size rfl rfl (by simp[maxLen])
 have HT:Hid _:=hA.ten;clear hA hw0;unfold clV;go_enter Tryz.func219,Tryz.ntmps219;go_wp2_with fail
 rw[<- HW0.out];obtain⟨c0,c1,c2,c3,c4,c5,c6,c7,c8,c9⟩:=HT.out;have HTR:Hid (∀ W,Calls Tryz.prog 235 #[.agg #[.int .i64 c.k,.int .i64 c.tf,.int .i64 c.tt,.int .i64 c.hf,.int .i64 c.ht,.int .i64 c.fi,.int .i64 c.t0,.int .i64 c.t1,.int .i64 c.t2,.bool c.t3]] W λe w'=>e=.returned (.agg #[.int .i64 c.tf,.int .i64 c.tt])/\Below W.heap.size W w'):=λW=>zeH c W
 have HHA:Hid (∀ W,Calls Tryz.prog 236 #[.agg #[.int .i64 c.k,.int .i64 c.tf,.int .i64 c.tt,.int .i64 c.hf,.int .i64 c.ht,.int .i64 c.fi,.int .i64 c.t0,.int .i64 c.t1,.int .i64 c.t2,.bool c.t3]] W λe w'=>e=.returned (.agg #[.int .i64 c.hf,.int .i64 c.ht])/\Below W.heap.size W w'):=λW=>zdE c W
 have HFI:Hid (∀ W,Calls Tryz.prog 237 #[.agg #[.int .i64 c.k,.int .i64 c.tf,.int .i64 c.tt,.int .i64 c.hf,.int .i64 c.ht,.int .i64 c.fi,.int .i64 c.t0,.int .i64 c.t1,.int .i64 c.t2,.bool c.t3]] W λe w'=>e=.returned (.agg #[.int .i64 c.fi,.int .i64 c.hf])/\Below W.heap.size W w'):=λW=>zd5 c W
 go_region_held3 (λw'=>w'.cell? ⟨w.heap.size,0,none⟩=some (.int .i64 c.k)/\w'.cell? ⟨w.heap.size,1,none⟩=some (.int .i64 c.tf)/\w'.cell? ⟨w.heap.size,2,none⟩=some (.int .i64 c.tt)/\w'.cell? ⟨w.heap.size,3,none⟩=some (.int .i64 c.hf)/\w'.cell? ⟨w.heap.size,4,none⟩=some (.int .i64 c.ht)/\w'.cell? ⟨w.heap.size,5,none⟩=some (.int .i64 c.fi)/\w'.cell? ⟨w.heap.size,6,none⟩=some (.int .i64 c.t0)/\w'.cell? ⟨w.heap.size,7,none⟩=some (.int .i64 c.t1)/\w'.cell? ⟨w.heap.size,8,none⟩=some (.int .i64 c.t2)/\w'.cell? ⟨w.heap.size,9,none⟩=some (.bool c.t3))
  (first | (exact HK.out _ (zad _)) | (exact HK.out _ (zaa (zad _) hb1)) | (exact HK.out _ (zaa (zaa (zad _) hb1) hb2)) | (exact HK.out _ (zbN (zaa (zaa (zad _) hb1) hb2) _)))
  (first | (go_at_call 235;refine (HTR.out _).mono ?_;rintro e w1 ⟨rfl,hb1⟩) | (go_at_call 236;refine (HHA.out _).mono ?_;rintro e w2 ⟨rfl,hb2⟩))
 rename_i hheld
 clear hheld;have hb2':=zaa (zaa (zad _) hb1) hb2;obtain⟨w3,hw3⟩:∃ W,W=w2.alloc (.cells #[.int .i64 c.tf,.int .i64 c.tt,.int .i64 c.hf,.int .i64 c.ht] 199):=⟨_,rfl⟩;have HW3:Hid (w3=_):=hw3;have hb3:Below w0.heap.size w0 w3:=by rw[hw3];exact zbN hb2' _
 have HO3:Hid (OwnE spE w3 w.heap.size 199 (.slice (some ⟨w2.heap.size,0,none⟩) 2 2) [zcI c,zex c]):=by
  rw[hw3];exact HV.out w2 (zaa HB0.out hb2')
 have HB3:Hid (Below w.heap.size w w3):=zaa HB0.out hb3
 replace HT:Hid _:=HK.out w3 hb3
 have HK3:Hid (∀ w',Below w3.heap.size w3 w'->Ten w' w.heap.size 0 c):=λw' hb=>HK.out w' (zaa hb3 hb)
 clear hw3 hb1 hb2 hb2' hb3 c0 c1 c2 c3 c4 c5 c6 c7 c8 c9;obtain⟨c0,c1,c2,c3,c4,c5,c6,c7,c8,c9⟩:=HT.out;rw[<- HW3.out];by_cases hk:c.k=2
 ·have HS:Hid (zaj c=[zcI c,zex c] ++ [zgd c]):=by show _=_;unfold zaj;rw[if_pos hk];rfl
  have hk':(c.k==2)=true:=by rw[hk];rfl
  have HV4:Hid (∀ w':World,Es spE (w'.alloc (.cells #[.int .i64 c.fi,.int .i64 c.hf] 199)) (.slice (some ⟨w'.heap.size,0,none⟩) 1 1) [zgd c]):=λw'=>(OwnE.lit spE w' w'.heap.size 199 [zgd c] _ 1 (Nat.le_refl _) rfl rfl (by simp[maxLen])).es
  clear hk;go_wp2_with fail
  refine (HFI.out _).mono ?_;rintro e w4 ⟨rfl,hb4⟩;have HB4:Hid (Below w3.heap.size w3 w4):=hb4;have HO4:Hid (OwnE spE (w4.alloc (.cells #[.int .i64 c.fi,.int .i64 c.hf] 199)) w.heap.size 199 (.slice (some ⟨w2.heap.size,0,none⟩) 2 2) [zcI c,zex c]):=HO3.out.later (zbN hb4 _);have HSZ:Hid (w.heap.size<=(w4.alloc (.cells #[.int .i64 c.fi,.int .i64 c.hf] 199)).heap.size):=(zbN (zaa HB3.out hb4) _).size;clear hb4 c0 c1 c2 c3 c4 c5 c6 c7 c8 c9;go_wp2_with (at_builtin;go_must (refine zal spE rfl (.tmp 12) (.tmp 15) 184 rfl w.heap.size 199 _ 16 Tryz.underlying184 Tryz.infoSpan rfl rfl rfl HO4.out (HV4.out w4) (by simp[maxLen]) (by simp) HSZ.out ?_;intro v5 w5 ho5 hg5))
  go_ret;refine⟨v5,rfl,by rw[HS.out];exact ho5, ?_⟩
  exact (zbN (zaa HB3.out HB4.out) _).trans (zaE HO4.out hg5 (Nat.le_refl _) HSZ.out)
 ·have HS:Hid (zaj c=[zcI c,zex c]):=by show _=_;unfold zaj;rw[if_neg hk]
  have hk':(c.k==2)=false:=by rw[beq_eq_false_iff_ne];exact hk
  clear hk;go_wp2_with fail
  go_ret;exact⟨_,rfl,by rw[HS.out];exact HO3.out,HB3.out⟩
end Go.Proofs.YtkedhjdipnhgdaaGreat

namespace Go.Proofs.YtkedhjdipnhgdaaGreat
set_option maxHeartbeats 16000000
set_option linter.all false
open RowKit
def zpq (bs zs:List UInt8) (k:Nat):List UInt8:=bs ++ (zs.take k ++ List.replicate (zs.length - k) 0)
theorem zkf (bs zs:List UInt8) (k:Nat) (h:k<=zs.length):(zpq bs zs k).length=bs.length+zs.length:=by simp[zpq];omega
theorem zoG (bs zs:List UInt8):zpq bs zs 0=ext bs zs.length:=by simp[zpq,ext]
theorem zq2 (bs zs:List UInt8):zpq bs zs zs.length=bs ++ zs:=by simp[zpq]
theorem zoK (bs zs:List UInt8) (k:Nat) (h:k<zs.length):(zpq bs zs k).set (bs.length+k) zs[k]=zpq bs zs (k+1):=by
 unfold zpq;rw[List.set_append_right _ _ (by omega),List.set_append_right _ _ (by simp;omega)]
 simp only[List.length_take];rw[show bs.length+k - bs.length - min k zs.length=0 by omega,show zs.length - k=(zs.length - (k+1))+1 by omega,List.replicate_succ,List.set_cons_zero,List.take_succ_eq_append_getElem h]
 simp only[List.append_assoc,List.singleton_append]
theorem zot (l:List UInt8) (i:Nat) (x:Int) (y:UInt8) (hx:x=(y.toNat:Int)):(u8s l).toArray.setIfInBounds i (.int .u8 x)=(u8s (l.set i y)).toArray:=by
 subst hx;simp[u8s]
theorem zsc (l:List UInt8) (i:Nat) (h:i<l.length):(u8s l).toArray[i]? =some (.int .u8 (l[i].toNat:Int)):=by simp[zeM l i h]
def beL (n s:Nat):List UInt8:=(List.range s).map λk=>UInt8.ofNat (n / 2 ^ (8 * (s - 1 - k)))
theorem zdM (n s:Nat):(beL n s).length=s:=by simp[beL]
theorem ztf (n s k:Nat) (h:k<(beL n s).length):((beL n s)[k].toNat:Int)=(n:Int) / 2 ^ (8 * (s - 1 - k)) % 256:=by
 simp[beL]
set_option maxRecDepth 100000 in
theorem zgK {v:Value} {bs:List UInt8} {w:World} (hv:Bs w v bs) (hb:bs.length<=281474976710600) (n s mk:Nat) (hs:zhT (n:Int)=(s:Int)) (hs1:1<=s) (hs4:s<=4) (hm:zkQ (s:Int)=(mk:Int))
 (z0 y0:UInt8) (zr:List UInt8) (hz:beL n s=z0 :: zr) (hy:y0.toNat=z0.toNat+mk) :
 Calls Tryz.prog 230 #[v,.int .i64 (n:Int)] w λe w'=>e=.returned (.tuple #[.slice (some ⟨w.heap.size,0,none⟩) (bs.length+s) (bs.length+s),.int .i64 0]) /\
  ∃ m,w'=(w.alloc (.cells (u8s (bs ++ y0 :: zr)).toArray 5)).drewN m:=by
 have HE:Hid (Calls Tryz.prog 249 #[v,.int .i64 (s:Int)] w λe w'=>e=.returned (.slice (some ⟨w.heap.size,0,none⟩) (bs.length+s) (bs.length+s))/\w'=w.alloc (.cells (u8s (ext bs s)).toArray 5)):=znk hv s (by omega)
 have hs0:((s:Int)==0)=false:=by rw[beq_eq_false_iff_ne];omega
 obtain⟨a,cap,rfl,h1,h2,h3⟩:=hv;clear h3;have hzl:=zdM n s;have HZ:Hid (beL n s=z0 :: zr):=hz;clear hz;go_enter Tryz.func230,Tryz.ntmps230;go_wp2_with fail
 refine (zqq _ _).mono ?_;rintro e wz ⟨rfl,hz'⟩;subst wz;go_wp2_with fail
 refine HE.out.mono ?_;rintro e wz ⟨rfl,hz'⟩;subst wz;clear HE;go_wp2_with fail
 go_loopw [17] (λi wr=>∃ (k:Nat) (C:Array Value),k<=s/\i=.int .i64 k/\wr=w.alloc (.cells C 5)/\C=(u8s (zpq bs (beL n s) k)).toArray) (λi _=>s - (intOf i).toNat)
 case atStart=>exact⟨0,_,Nat.zero_le _,rfl,rfl,by rw[zoG,zdM]⟩
 case round =>
  obtain⟨k,C,hk,rfl,rfl,hC⟩:=hrel;by_cases hkn:k<s
  ·have hcell:∃ x:Int,C[bs.length+k]? =some (.int .u8 x):=⟨_,by rw[hC];exact zsc _ _ (by rw[zkf bs (beL n s) k (by omega)];omega)⟩
   obtain⟨x,hcell⟩:=hcell;have HC:Hid (C.setIfInBounds (bs.length+k) (.int .u8 ((n:Int) / 2 ^ (8 * (s - 1 - k)) % 256))=(u8s (zpq bs (beL n s) (k+1))).toArray):=by
    show _=_;rw[hC,zot _ _ _ _ (ztf n s k (by omega)).symm,zoK]
   clear hC;go_wp2;go_roundw
   case rel=>exact⟨k+1,_,by omega,by go_num,rfl,HC.out⟩
   case measure=>simp[intOf];omega
  ·have hkk:k=s:=by omega
   subst hkk;have hC2:C=(u8s (bs ++ z0 :: zr)).toArray:=by rw[hC,<- HZ.out,<- zq2 bs (beL n k),zdM]
   clear hC;have hcell:C[bs.length]? =some (.int .u8 (z0.toNat:Int)):=by rw[hC2];rw[zsc _ _ (by simp)];simp
   have HC:Hid (C.setIfInBounds bs.length (.int .u8 (IntKind.u8.wrap ((z0.toNat:Int)+mk)))=(u8s (bs ++ y0 :: zr)).toArray):=by
    show _=_;rw[hC2,zot _ _ _ y0 (by rw[IntKind.wrap_u8];have:=y0.toNat_lt;omega)]
    simp
   clear hC2 HZ hzl;have hyl:z0.toNat+mk<256:=by have:=y0.toNat_lt;omega
   clear hy;go_wp2_with fail
   go_region_with (go_at_call 250;refine (zmI _ _).mono ?_;rintro e wz ⟨rfl,hz'⟩;subst wz)
   all_goals
    go_wp2;go_ret2
    refine⟨rfl,1, ?_⟩;rw[HC.out];rfl
theorem zdq (n:Nat):UInt8.ofNat n=UInt8.ofNat (n % 256):=UInt8.toNat_inj.1 (by simp)
def pkL (n:Nat):List UInt8:=
 if n<=127 then [UInt8.ofNat n] else if n<=16383 then [UInt8.ofNat (128+n / 256),UInt8.ofNat (n % 256)]
 else [UInt8.ofNat (192+n / 16777216),UInt8.ofNat (n / 65536 % 256),UInt8.ofNat (n / 256 % 256),UInt8.ofNat (n % 256)]
theorem zdR (n:Nat) (h:n<=536870911):((pkL n).length:Int)=zhT (n:Int):=by
 unfold pkL zhT
 split
 ·simp;omega
 ·split
  ·simp;omega
  ·simp;omega
theorem zp6 {v:Value} {bs:List UInt8} {w:World} (hv:Bs w v bs) (hb:bs.length<=281474976710600) (n:Nat) (hn:n<=536870911) :
 Calls Tryz.prog 230 #[v,.int .i64 (n:Int)] w λe w'=>e=.returned (.tuple #[.slice (some ⟨w.heap.size,0,none⟩) (bs.length+(pkL n).length) (bs.length+(pkL n).length),.int .i64 0]) /\
  ∃ m,w'=(w.alloc (.cells (u8s (bs ++ pkL n)).toArray 5)).drewN m:=by
 have hl:=zdR n hn;by_cases h1:n<=127
 ·have e1:pkL n=UInt8.ofNat n :: []:=by simp[pkL,h1]
  rw[e1];exact zgK hv hb n 1 0 (by rw[<- hl,e1];simp) (by omega) (by omega) (by simp[zkQ]) (UInt8.ofNat n) (UInt8.ofNat n) [] (by simp[beL]) (by omega)
 ·by_cases h2:n<=16383
  ·have e1:pkL n=[UInt8.ofNat (128+n / 256),UInt8.ofNat (n % 256)]:=by simp[pkL,h1,h2]
   rw[e1];exact zgK hv hb n 2 128 (by rw[<- hl,e1];simp) (by omega) (by omega) (by simp[zkQ]) (UInt8.ofNat (n / 256)) _ _ (by simp[beL,List.range_succ];exact zdq _) (by simp;omega)
  ·have e1:pkL n=[UInt8.ofNat (192+n / 16777216),UInt8.ofNat (n / 65536 % 256),UInt8.ofNat (n / 256 % 256),UInt8.ofNat (n % 256)]:=by simp[pkL,h1,h2]
   rw[e1];exact zgK hv hb n 4 192 (by rw[<- hl,e1];simp) (by omega) (by omega) (by simp[zkQ]) (UInt8.ofNat (n / 16777216)) _ _ (by simp[beL,List.range_succ];exact⟨zdq _,zdq _,zdq _⟩) (by simp;omega)
def OwnI (w:World) (base:Nat) (v:Value) (l:List Int):Prop:=OwnV w base 3 v (zc4 l)
theorem zda (a b:List Int):zc4 (a ++ b)=zc4 a ++ zc4 b:=by simp[zc4]
theorem OwnI.is {w:World} {base:Nat} {v:Value} {l:List Int} (h:OwnI w base v l):Is w v l:=OwnV.sl h
theorem OwnI.later {w w':World} {base:Nat} {v:Value} {l:List Int} (h:OwnI w base v l) (hb:Below w.heap.size w w'):OwnI w' base v l:=OwnV.later h hb
theorem OwnI.of_block {w w':World} {base:Nat} {v:Value} {l:List Int} (h:OwnI w base v l) (hb:∀ k,v.ownBlock=some k->k<w.heap.size->w'.heap[k]? =w.heap[k]?):OwnI w' base v l:=OwnV.of_block h hb
theorem OwnI.block {w:World} {base:Nat} {v:Value} {l:List Int} (h:OwnI w base v l):∀ k,v.ownBlock=some k->base<=k/\k<w.heap.size:=OwnV.block h
theorem OwnI.nil (w:World) (base:Nat):OwnI w base (.slice none 0 0) []:=OwnV.nil w base 3
theorem OwnI.typed {w:World} {base:Nat} {v:Value} {l:List Int} (h:OwnI w base v l):∀ k,v.ownBlock=some k->∃ C,At w k C 3:=OwnV.typed h
theorem OwnI.ne {w:World} {base g:Nat} {v:Value} {l:List Int} {C:Array Value} {t:TypeId} (ho:OwnI w base v l) (h:At w g C t) (ht:t≠3):v.ownBlock≠some g:=by
 intro e;obtain⟨C',hC⟩:=ho.typed g e;unfold At at h hC;rw[h]at hC;simp only[Option.some.injEq,Obj.cells.injEq]at hC;exact ht hC.2.1
theorem At.grownI {w w':World} {g base:Nat} {C:Array Value} {t:TypeId} {v:Value} {l:List Int} (h:At w g C t) (ho:OwnI w base v l) (ht:t≠3) (hg:w.grownBy w' v.ownBlock):At w' g C t:=by
 have hl:=h.lt;have hne:=ho.ne h ht;unfold At at h ⊢;rw[hg.block g hl (λe=>hne e.symm)];exact h
theorem OwnI.parts {w:World} {base:Nat} {v:Value} {l:List Int} (h:OwnI w base v l) (hne:l≠[]):∃ g cap,v=.slice (some ⟨g,0,none⟩) l.length cap/\l.length<=cap/\cap<=maxLen/\base<=g/\g<w.heap.size/\∀ i (hi:i<l.length),w.cell? ⟨g,i,none⟩=some (.int .i64 l[i]):=by
 have hs:=OwnV.sl h
 rcases h.2 with ⟨rfl,h0⟩ | ⟨g,cap,cur,rfl,hg,hh,hn,hm,r⟩
 ·rw[zae]at h0;exact absurd (List.eq_nil_of_length_eq_zero h0) hne
 ·obtain⟨a,c,e,_,_,h3⟩:=hs;obtain⟨b,off,ea,hb,hc⟩:=h3 (by simpa[zc4]using hne)
  cases e
  cases ea
  rw[zae]at hn ⊢;refine⟨g,cap,rfl,hn,hm,hg,hb,λi hi=>?_⟩
  have:=hc i (by rw[zae];exact hi)
  rw[Nat.zero_add]at this;rw[this];simp[zc4]
theorem Tryz.infoInt7:(Tryz.prog.info? 3).map (λi=>(i.zero,i.size,i.bytes))=some (some (.int .i64 0),1,8):=by kernel_rfl
theorem ze3 {P:Program} (w:World) (base:Nat) (t tx ty e:TypeId) (i:TypeInfo) (z:Value) (ht:P.underlying t=some (.slice e)) (hi:P.info? e=some i) (hz:i.zero=some z) (hs1:i.size=1) (hzs:z.cells.size=1)
 {v y:Value} {xs news:List Value} {n:Nat} (hv:OwnV w base e v xs) (hs:Src P 1 tx y n news w) (h63:xs.length+n<=maxLen) (hbytes:((xs.length+n)+(xs.length+n) / 4+192) * i.bytes<=281474976710656) (hbase:base<=w.heap.size) :
 ∃ v' w',(Builtin.append_ #[t,tx] ty #[v,y]).run P w=.ok v' w'/\OwnV w' base e v' (xs ++ news)/\w.grownBy w' v.ownBlock/\(v'.ownBlock=v.ownBlock∨v'.ownBlock=some w.heap.size)/\(∀ g,v.ownBlock=some g->∀ j,j<xs.length->w'.cell? ⟨g,j,none⟩=w.cell? ⟨g,j,none⟩):=by
 obtain⟨v',w',hr,ho,hg,hp,_⟩:=zca (P:=P) w base t tx ty e i z ht hi hz hs1 hzs hv hs h63 hbytes hbase;refine⟨v',w',hr,ho,hg,hp,λg hvg j hj=>?_⟩
 rcases hv.2 with ⟨rfl,h0⟩ | ⟨g',cap,cur,rfl,hbg,hgg,hnc,hcm,hcs,htake⟩
 ·simp[Value.ownBlock]at hvg
 ·have e1:g'=g:=by simpa[Value.ownBlock]using hvg
  subst e1;have hnl:news.length=n:=by have:=hs.newsLen;omega
  have hadd:(⟨g',0,none⟩:Addr).add j=⟨g',j,none⟩:=by unfold Addr.add;split <;> simp_all
  have hc0:=World.ownsRow.cells (w:=w) (base:=base) (e:=e) (size:=1) (v:=.slice (some ⟨g',0,none⟩) xs.length cap) (n:=xs.length) (xs:=xs) hv (g:=g') rfl j xs[j] (List.getElem?_eq_getElem hj);by_cases hroom:xs.length+n<=cap
  ·have hfit:xs.length * i.size+news.length<=cur.size:=by rw[hs1,hcs,hnl];omega
   have hst:=run_storeCells_at P g' (xs.length * i.size) e news 0 cur w hgg (by simpa using hfit) hs.one
   simp only[Nat.add_zero]at hst;have hr':(Builtin.append_ #[t,tx] ty #[.slice (some ⟨g',0,none⟩) xs.length cap,y]).run P w=.ok (.slice (some ⟨g',0,none⟩) (xs.length+n) cap) (w.setRow g' (cur.toList.take (xs.length * i.size) ++ news ++ cur.toList.drop (xs.length * i.size+news.length)).toArray):=by
    have hc:=hs.cells;rw[hs1]at hst ⊢;simp only[Nat.mul_one]at hst ⊢
    rcases hs.kind with ⟨e',hk⟩ | hk <;> simp[Builtin.append_,run_underlying ht,run_underlying hk,sizeOf,typeInfo,hi,hs1,hs.len,hc,hroom,Addr.add_lit,hst]
   rw[hr']at hr;simp only[Result.ok.injEq]at hr;obtain⟨hr1,hr2⟩:=hr;subst hr1;have hc1:=World.ownsRow.cells (w:=w') (base:=base) (e:=e) (size:=1) (n:=(xs ++ news).length) (xs:=xs ++ news) ho (g:=g') rfl j xs[j] (by rw[List.getElem?_append_left hj];exact List.getElem?_eq_getElem hj)
   rw[hadd]at hc0 hc1;rw[hc1,hc0]
  ·have hold:(Builtin.firstCells i.size xs.length (.slice (some ⟨g',0,none⟩) xs.length cap)).run P w.drew=.ok xs.toArray w.drew:=by
    rw[hs1];refine run_firstCells_some w.drew 1 xs.length ⟨g',0,none⟩ xs.length cap xs (by omega) ?_
    intro j u hj;exact World.ownsRow.cells (w:=w.drew) (base:=base) (e:=e) (size:=1) (v:=.slice (some ⟨g',0,none⟩) xs.length cap) (n:=xs.length) (xs:=xs) hv (g:=g') rfl j u hj
   have h63i:((xs.length+n:Nat):Int)<=9223372036854775807:=by simp only[maxLen]at h63;omega
   have hr':=run_append_grow_src (P:=P) w t tx ty e i z ht hi hz (some ⟨g',0,none⟩) xs.length cap xs hold y n news (by rw[hs1];exact hs) (by omega) h63i (growslice_fits_wide (by omega) hbytes)
   rw[hr']at hr;simp only[Result.ok.injEq]at hr;obtain⟨hr1,hr2⟩:=hr;subst hr2;have hlt:=(Array.getElem?_eq_some_iff.1 hgg).1;exact World.cell?_of_block (heap_alloc_old w.drew _ hlt)
theorem zas {ops:Array Oper} {Q:Exit->Act->World->Prop} {a:Act} {w:World} {rest:List Oper} {o:Oper} (hw:Region.wanted o (yielded ops a.tmps)=true) (s x:Operand)
 (ho:o.op=.call { callee:=.builtin .append,args:=#[s,x],argTypes:=#[40,40] }) (base:Nat)
 {v y:Value} {l:List Int} {n:Int} (hs:a.eval s=v) (hx:a.eval x=y) (hv:OwnI w base v l) (hy:Src Tryz.prog 1 40 y 1 [.int .i64 n] w) (hl:l.length<=100000) (hbase:base<=w.heap.size)
 (h:∀ v' w',OwnI w' base v' (l ++ [n])->w.grownBy w' v.ownBlock->wpList Tryz.prog ops Q rest (a.put o.dst v') w'):wpList Tryz.prog ops Q (o :: rest) a w:=by
 refine zbL hw λK hK=>?_
 obtain⟨i,hi,hz0,hz1,hz2⟩:=info_parts Tryz.infoInt7;obtain⟨v',w',hr,h2,h3,h4,h5⟩:=ze3 (P:=Tryz.prog) w base 40 40 o.type 3 i _ Tryz.underlying40 hi hz0 hz1 rfl hv hy (by rw[zae];unfold maxLen;omega) (by rw[zae,hz2];omega) hbase
 unfold Oper.wp execOp;simp only[ho,resolve,invoke,builtin,Sem.run_bind,Sem.run_pure,Result.andThen_ok,List.map_toArray,List.map_cons,List.map_nil,hs,hx,hr];refine hK _ _ (h v' w' ?_ h3);unfold OwnI;rw[zda];exact h2
theorem zbf (w:World) (n:Int) (g:Nat) (hg:g=w.heap.size):Src Tryz.prog 1 40 (.slice (some ⟨g,0,none⟩) 1 1) 1 [.int .i64 n] (w.alloc (Obj.cells #[.int .i64 n] 3)):=
 zqA Tryz.underlying40 w (.int .i64 n) 3 g hg rfl
theorem zhV {α:Type} (E:Enc α) {P:Program} (w:World) (base:Nat) (ts ty t:TypeId) (z:Value) (bytes:Nat) (ht:P.underlying ts=some (.slice t)) (hinfo:(P.info? t).map (λi=>(i.zero,i.size,i.bytes))=some (some z,E.size,bytes))
 {v y v':Value} {w':World} {xs ys:List α} (hv:OwnE E w base t v xs) (hy:Es E w y ys) (hb:xs.length+ys.length<=maxLen) (hby:((xs.length+ys.length)+(xs.length+ys.length) / 4+192) * bytes<=281474976710656)
 (hr:(Builtin.append_ #[ts,ts] ty #[v,y]).run P w=.ok v' w'):v'.ownBlock=v.ownBlock∨v'.ownBlock=some w.heap.size:=by
 obtain⟨i,hi,hz0,hz1,hz2⟩:=info_parts hinfo;obtain⟨a,cap,rfl,h1,h2,h3⟩:=id hy;have hcl:=zbm E ys;have hsmall:xs.length+ys.length<=9223372036854775807:=by simp only[maxLen]at hb;omega
 cases a with
 | none =>
  have hys:ys=[]:=by
   by_cases h:ys=[]
   ·exact h
   ·obtain⟨b,off,hh,_⟩:=h3 h;simp at hh
  subst hys;have:(Builtin.append_ #[ts,ts] ty #[v,.slice none ([]:List α).length cap]).run P w=.ok v w:=by
   rcases hv.2 with ⟨rfl,h0⟩ | ⟨g,cp,cur,rfl,_,_,hnc,_⟩
   ·simp[Builtin.append_,run_underlying ht,sizeOf,typeInfo,hi,Builtin.lenOf,Builtin.firstCells]
   ·simp[Builtin.append_,run_underlying ht,sizeOf,typeInfo,hi,Builtin.lenOf,Builtin.firstCells,hnc,storeCells]
  rw[this]at hr
  cases hr
  exact Or.inl rfl
 | some ad =>
  have hnews:∀ j u,(ecL E ys)[j]? =some u->w.cell? (ad.add j)=some u:=by
   intro j u hj;have hne:ys≠[]:=by intro e;subst e;simp[ecL]at hj
   obtain⟨b,off,hh,_,hc⟩:=h3 hne;simp only[Option.some.injEq]at hh;subst hh;have hplain:(⟨b,off,none⟩:Addr).add j=⟨b,off+j,none⟩:=by unfold Addr.add;split <;> simp_all
   rw[hplain];exact hc j u hj
  rw[<- hz1]at hcl;rw[<- hz2]at hby
  rcases hv.2 with ⟨rfl,h0⟩ | ⟨g,cp,cur,rfl,hbg,hg,hnc,hcm,hcs,htake⟩
  ·by_cases hm:ys.length=0
   ·have hys:=List.eq_nil_of_length_eq_zero hm;subst hys;have:(Builtin.append_ #[ts,ts] ty #[.slice none 0 0,.slice (some ad) ([]:List α).length cap]).run P w=.ok (.slice none 0 0) w:=by
     simp[Builtin.append_,run_underlying ht,sizeOf,typeInfo,hi,Builtin.lenOf,Builtin.firstCells,loadCells,loadCellsFrom]
    rw[this]at hr
    cases hr
    exact Or.inl rfl
   ·have h4:ys.length * i.bytes<=281474976710656:=Nat.le_trans (Nat.mul_le_mul_right _ (by omega)) hby
    have:=run_append_nil (P:=P) w ts ty t i z ht hi hz0 ad ys.length cap (ecL E ys) hcl hnews (by omega) (by omega) h4
    rw[this]at hr
    cases hr
    exact Or.inr rfl
  ·by_cases hroom:xs.length+ys.length<=cp
   ·have hfit:xs.length * i.size+(ecL E ys).length<=cur.size:=by rw[hcl,hcs,<- hz1,<- Nat.add_mul];exact Nat.mul_le_mul_right _ hroom
    have:=run_append_room (P:=P) w ts ty t i ht hi g xs.length cp cur hg ad ys.length cap (ecL E ys) hcl hnews (zpc E ys) hroom hfit;rw[this]at hr
    cases hr
    exact Or.inl rfl
   ·have holds:∀ j u,(ecL E xs)[j]? =some u->w.cell? ((⟨g,0,none⟩:Addr).add j)=some u:=World.ownsRow.cells (g:=g) hv rfl;have:=run_append_grow (P:=P) w ts ty t i z ht hi hz0 ⟨g,0,none⟩ xs.length cp (ecL E xs) (by rw[hz1];exact zbm E xs) holds ad ys.length cap (ecL E ys) hcl hnews (by omega) (by omega) (growslice_fits_wide (by omega) hby)
    rw[this]at hr
    cases hr
    exact Or.inr rfl
theorem zet {α:Type} (E:Enc α) {P:Program} {w:World} {ops:Array Oper} {rest:List Oper} {o:Oper} {a:Act} {Q:Exit->Act->World->Prop} (hw:Region.wanted o (yielded ops a.tmps)=true) (s x:Operand) (ts:TypeId)
 (ho:o.op=.call { callee:=.builtin .append,args:=#[s,x],argTypes:=#[ts,ts] }) (base:Nat) (t:TypeId) (z:Value) (bytes:Nat) (ht:P.underlying ts=some (.slice t)) (hinfo:(P.info? t).map (λi=>(i.zero,i.size,i.bytes))=some (some z,E.size,bytes)) (hzs:z.cells.size=E.size)
 {v y:Value} {xs ys:List α} (hs:a.eval s=v) (hx:a.eval x=y) (hv:OwnE E w base t v xs) (hy:Es E w y ys) (hb:xs.length+ys.length<=maxLen) (hby:((xs.length+ys.length)+(xs.length+ys.length) / 4+192) * bytes<=281474976710656) (hbase:base<=w.heap.size)
 (h:∀ v' w',OwnE E w' base t v' (xs ++ ys)->w.grownBy w' v.ownBlock->(v'.ownBlock=v.ownBlock∨v'.ownBlock=some w.heap.size)->wpList P ops Q rest (a.put o.dst v') w'):wpList P ops Q (o :: rest) a w:=by
 refine zbL hw λK hK=>?_
 obtain⟨v',w',hr,h2,h3⟩:=zdh E w base ts o.type t z bytes ht hinfo hzs hv hy hb hby hbase;have h4:=zhV E w base ts o.type t z bytes ht hinfo hv hy hb hby hr;unfold Oper.wp execOp;simp only[ho,resolve,invoke,builtin,Sem.run_bind,Sem.run_pure,Result.andThen_ok,List.map_toArray,List.map_cons,List.map_nil,hs,hx,hr];exact hK _ _ (h v' w' h2 h3 h4)
def Apw (w:World) (lv mv:Value):Prop:=∀ k,mv.ownBlock=some k->k<w.heap.size/\lv.ownBlock≠some k
theorem Apw.later {w w':World} {lv mv:Value} (h:Apw w lv mv) (hb:Below w.heap.size w w'):Apw w' lv mv:=λk hk=>⟨Nat.lt_of_lt_of_le (h k hk).1 hb.size,(h k hk).2⟩
theorem Apw.grow {α:Type} {E:Enc α} {w w':World} {lv lv' mv:Value} {X:List α} (h:Apw w lv mv) (hi:Es E w mv X) (hg:w.grownBy w' lv.ownBlock) (hp:lv'.ownBlock=lv.ownBlock∨lv'.ownBlock=some w.heap.size):Es E w' mv X/\Apw w' lv' mv:=by
 refine⟨hi.of_block hg.size (λk hk hl=>hg.block k hl (λe=>(h k hk).2 e.symm)),λk hk=>⟨Nat.lt_of_lt_of_le (h k hk).1 hg.size, ?_⟩⟩
 rcases hp with hp | hp
 ·rw[hp];exact (h k hk).2
 ·rw[hp];intro e;have:=(h k hk).1;simp only[Option.some.injEq]at e;omega
theorem Apw.of {α β:Type} {E:Enc α} {E2:Enc β} {w w':World} {b b2:Nat} {t t2:TypeId} {lv mv:Value} {l:List α} {m:List β} (h:OwnE E w b t lv l) (h2:OwnE E2 w' b2 t2 mv m) (hb:w.heap.size<=b2):Apw w' lv mv:=λk hk=>by
 have h3:=h2.block k hk;refine⟨h3.2,λe=>?_⟩
 have:=(h.block k e).2;omega
theorem Es.elAll {α:Type} {E:Enc α} {w:World} {fa:Option Addr} {n c:Nat} {l:List α} (h:Es E w (.slice fa n c) l) (hne:l≠[]):∃ tb off,fa=some ⟨tb,off,none⟩/\c<=maxLen/\∀ W,Below w.heap.size w W->∀ i (hi:i<l.length),El E W tb (off+i * E.size) l[i]:=by
 obtain⟨tb,off,cap,hla,_,h2,htb,hc⟩:=h.parts hne;simp only[Value.slice.injEq]at hla;obtain⟨hla,_,hlc⟩:=hla;exact⟨tb,off,hla,by omega,λW hW i hi=>(hc i hi).below hW htb⟩
def zba:List UInt8:=[
 110,111,112,32,108,100,97,114,103,32,115,116,97,114,103,32,108,100,97,114,103,97,32,108,100,108,111,99,32,115,116,108,
 111,99,32,108,100,108,111,99,97,32,108,100,99,52,32,108,100,99,56,32,108,100,110,117,108,108,32,100,117,112,32,112,
 111,112,32,97,100,100,32,115,117,98,32,109,117,108,32,100,105,118,32,114,101,109,32,97,110,100,32,111,114,32,120,111,
 114,32,115,104,108,32,115,104,114,32,110,101,103,32,110,111,116,32,97,100,100,111,118,102,32,115,117,98,111,118,102,32,
 109,117,108,111,118,102,32,99,111,110,118,52,32,99,111,110,118,56,32,99,111,110,118,111,118,102,52,32,99,101,113,32,
 99,103,116,32,99,108,116,32,98,114,32,98,114,116,114,117,101,32,98,114,102,97,108,115,101,32,98,101,113,32,98,103,101,
 32,98,103,116,32,98,108,101,32,98,108,116,32,98,110,101,32,99,97,108,108,32,99,97,108,108,118,105,114,116,32,110,101,
 119,111,98,106,32,114,101,116,32,116,97,105,108,32,108,100,102,108,100,32,115,116,102,108,100,32,108,100,102,108,100,
 97,32,108,100,115,102,108,100,32,115,116,115,102,108,100,32,108,100,115,102,108,100,97,32,108,100,111,98,106,32,115,
 116,111,98,106,32,105,110,105,116,111,98,106,32,110,101,119,97,114,114,32,108,100,108,101,110,32,108,100,101,108,101,
 109,32,115,116,101,108,101,109,32,108,100,101,108,101,109,97,32,98,111,120,32,117,110,98,111,120,32,117,110,98,111,120,
 97,110,121,32,99,97,115,116,99,108,97,115,115,32,105,115,105,110,115,116,32,108,100,102,116,110,32,110,101,119,100,101,
 108,32,116,104,114,111,119,32,114,101,116,104,114,111,119,32,108,101,97,118,101,32,101,110,100,102,105,110,97,108,108,
 121,32,101,110,100,102,105,108,116,101,114,32,105,110,32,111,117,116,32]
def zdA:ByteArray:=⟨zba.toArray⟩
def chk:List UInt8->Nat->List UInt8->Bool
 | [],m,cur=>m==76
 | c :: l,m,cur=>if c=32 then (opI (m:Int)).1==cur&&decide (1<=m/\m<=75)&&chk l (m+1) [] else chk l m (cur ++ [c])
theorem znI:chk zba 1 []=true:=by decide +kernel
theorem za3:zba.length=433:=by decide +kernel
theorem zf6 (k:Nat) (h:k<433) (g:k<zdA.size):zdA[k]=zba[k]'(by rw[za3];exact h):=rfl
def zrf (f k:Nat):List UInt8:=(zba.drop f).take (k - f)
theorem ziJ {f k:Nat} (hf:f<=k) (hk:k<433):zrf f (k+1)=zrf f k ++ [zba[k]'(by rw[za3];exact hk)]:=by
 unfold zrf;have hl:=za3;rw[show k+1 - f=(k - f)+1 by omega,List.take_succ_eq_append_getElem (by simp;omega)]
 congr 2
 simp[show f+(k - f)=k by omega]
theorem zqp (k:Nat):zrf k k=[]:=by simp[zrf]
theorem ziW {k:Nat} (hk:k<433):zba.drop k=(zba[k]'(by rw[za3];exact hk)) :: zba.drop (k+1):=by
 rw[List.drop_eq_getElem_cons (by rw[za3];exact hk)]
theorem zhN {k m:Nat} {cur:List UInt8} (hk:k<433) (h:chk (zba.drop k) m cur=true) (hc:(zba[k]'(by rw[za3];exact hk))=32):(opI (m:Int)).1=cur/\1<=m/\m<=75/\chk (zba.drop (k+1)) (m+1) []=true:=by
 rw[ziW hk]at h;unfold chk at h;rw[if_pos hc]at h;simp only[Bool.and_eq_true,beq_iff_eq,decide_eq_true_eq]at h;exact⟨h.1.1,h.1.2.1,h.1.2.2,h.2⟩
theorem zmk {k m:Nat} {cur:List UInt8} (hk:k<433) (h:chk (zba.drop k) m cur=true) (hc:¬ (zba[k]'(by rw[za3];exact hk))=32):chk (zba.drop (k+1)) m (cur ++ [zba[k]'(by rw[za3];exact hk)])=true:=by
 rw[ziW hk]at h;unfold chk at h;rw[if_neg hc]at h;exact h
theorem zs8 {m:Nat} {cur:List UInt8} (h:chk (zba.drop 433) m cur=true):m=76:=by
 rw[List.drop_of_length_le (by rw[za3];exact Nat.le_refl _)]at h
 simpa[chk]using h
theorem zfS {k:Nat} (hlt:k<433) (g:k<zdA.size) (h:(((zdA[k]'g).toNat:Int)==32)=true):(zba[k]'(by rw[za3];exact hlt))=32:=by
 rw[zf6 k hlt g]at h;exact UInt8.toNat_inj.1 (by simp at h ⊢;omega)
theorem zhB {k:Nat} (hlt:k<433) (g:k<zdA.size) (h:(((zdA[k]'g).toNat:Int)==32)=false):¬ (zba[k]'(by rw[za3];exact hlt))=32:=by
 rw[zf6 k hlt g]at h;intro e;rw[e]at h;simp at h
theorem zny {f k m:Nat} (hf:f<=k) (h:(opI (m:Int)).1=zrf f k):zdA.extract f k=opS (m:Int):=by
 unfold opS;rw[h];apply ByteArray.ext;rw[ByteArray.data_extract];apply Array.ext';simp[zdA,zrf]
theorem zn6 {a b:ByteArray} (h:a=b):Ending.returned (.string a)=.returned (.string b):=by rw[h]
set_option maxRecDepth 1000000 in
theorem zgE (n:Int) (w:World) :
 Calls Tryz.prog 76 #[.int .i64 n] w λe w'=>e=.returned (.string (opS n))/\w'=w:=by
 go_enter Tryz.func76,Tryz.ntmps76;go_wp2_with fail
 go_loop [3,4,5] (λm f i=>∃ k m' f':Nat,k<=433/\i=.int .i64 (k:Int)/\m=.int .i64 (m':Int)/\f=.int .i64 (f':Int)/\f'<=k/\m'<=k+1/\Hid (chk (zba.drop k) m' (zrf f' k)=true/\¬ (1<=n/\n<(m':Int)))) (λ_ _ i=>433 - (intOf i).toNat)
 case atStart=>exact⟨0,1,0,by omega,by go_num,by go_num,by go_num,by omega,by omega,⟨znI,by omega⟩⟩
 case round =>
  obtain⟨k,m',f',hk,rfl,rfl,rfl,hf,hm,HC⟩:=hrel;by_cases hlt:k<433
  ·have hkB:k<zdA.size:=hlt;by_cases hmn:(m':Int)=n
   ·subst hmn;go_wp2_with fail
    ·rename_i hs0 _ _ _
     have hsp:=zfS hlt hkB hs0;clear hs0;obtain⟨c1,c2,c3,c4⟩:=zhN hlt HC.out.1 hsp;go_ret;exact⟨zn6 (zny hf c1),rfl⟩
    ·rename_i hs0
     have hsp:=zhB hlt hkB hs0;clear hs0;go_round
     case rel=>exact⟨k+1,m',f',by omega,by go_num,rfl,rfl,by omega,by omega,⟨by rw[ziJ hf hlt];exact zmk hlt HC.out.1 hsp,HC.out.2⟩⟩
     case measure=>simp[intOf];omega
   ·have hmn2:((m':Int)==n)=false:=by simpa using hmn
    have HN:Hid (¬ (1<=n/\n<((m'+1:Nat):Int))):=by have:=HC.out.2;show ¬ _;omega
    clear hmn;go_wp2_with fail
    ·rename_i hs0
     have hsp:=zfS hlt hkB hs0;clear hs0;obtain⟨c1,c2,c3,c4⟩:=zhN hlt HC.out.1 hsp;go_round
     case rel=>exact⟨k+1,m'+1,k+1,by omega,by go_num,by go_num,by go_num,by omega,by omega,⟨by rw[zqp];exact c4,HN.out⟩⟩
     case measure=>simp[intOf];omega
    ·rename_i hs0
     have hsp:=zhB hlt hkB hs0;clear hs0;go_round
     case rel=>exact⟨k+1,m',f',by omega,by go_num,rfl,rfl,by omega,by omega,⟨by rw[ziJ hf hlt];exact zmk hlt HC.out.1 hsp,HC.out.2⟩⟩
     case measure=>simp[intOf];omega
  ·have e:k=433:=by omega
   subst e;go_wp2_with fail
   go_ret;have h76:=zs8 HC.out.1;have:=HC.out.2;exact⟨zn6 (zdb (by omega)).symm,rfl⟩
end Go.Proofs.YtkedhjdipnhgdaaGreat
