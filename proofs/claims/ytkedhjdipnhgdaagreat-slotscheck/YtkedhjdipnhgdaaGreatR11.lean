import Derived.Test.YtkedhjdipnhgdaaGreatR10
namespace Go.Proofs.YtkedhjdipnhgdaaGreat
set_option maxHeartbeats 16000000
set_option linter.all false
open RowKit
def Ts (w:World) (v:Value) (ts:List Ty):Prop:=
 ∃ a cap,v=.slice a ts.length cap/\ts.length<=cap/\cap<=maxLen /\
  (ts≠[]->∃ b off,a=some ⟨b,off,none⟩/\b<w.heap.size/\∀ i (h:i<ts.length),w.cell? ⟨b,off+i * 4,none⟩=some (.int .i64 ts[i].1)/\w.cell? ⟨b,off+i * 4+1,none⟩=some (.int .i64 ts[i].2.1) /\
    w.cell? ⟨b,off+i * 4+2,none⟩=some (.int .i64 ts[i].2.2.1)/\w.cell? ⟨b,off+i * 4+3,none⟩=some (.bool ts[i].2.2.2))
theorem Ts.nil (w:World):Ts w (.slice none 0 0) []:=⟨none,0,rfl,Nat.le_refl _,Nat.zero_le _,λh=>absurd rfl h⟩
theorem Ts.len {w:World} {v:Value} {ts:List Ty} (h:Ts w v ts):ts.length<=maxLen:=by
 obtain⟨a,cap,_,h1,h2,_⟩:=h;omega
theorem Ts.of_block {w w':World} {v:Value} {ts:List Ty} (h:Ts w v ts) (hs:w.heap.size<=w'.heap.size) (hk:∀ k,v.ownBlock=some k->k<w.heap.size->w'.heap[k]? =w.heap[k]?):Ts w' v ts:=by
 obtain⟨a,cap,rfl,h1,h2,h3⟩:=h;refine⟨a,cap,rfl,h1,h2,λhne=>?_⟩
 obtain⟨b,off,rfl,hb,hc⟩:=h3 hne;refine⟨b,off,rfl,by omega,λi hi=>?_⟩
 have e:∀ o,w'.cell? ⟨b,o,none⟩=w.cell? ⟨b,o,none⟩:=λo=>World.cell?_of_block (hk b rfl hb)
 rw[e,e,e,e];exact hc i hi
theorem Ts.below {w w':World} {v:Value} {ts:List Ty} {B:Nat} (h:Ts w v ts) (hb:Below B w w') (hk:∀ k,v.ownBlock=some k->k<B):Ts w' v ts:=
 h.of_block hb.size λk hv _=>hb.block k (hk k hv)
theorem Ts.later {w w':World} {v:Value} {ts:List Ty} (h:Ts w v ts) (hb:Below w.heap.size w w'):Ts w' v ts:=
 h.of_block hb.size λk _ hk=>hb.block k hk
theorem Ts.lt {w:World} {v:Value} {ts:List Ty} (h:Ts w v ts) (hne:ts≠[]):∀ g,v.ownBlock=some g->g<w.heap.size:=by
 obtain⟨a,cap,rfl,_,_,h3⟩:=h;obtain⟨b,off,rfl,hb,_⟩:=h3 hne;intro g hg;simp[Value.ownBlock]at hg;omega
theorem Ts.drewN {w:World} {v:Value} {ts:List Ty} (h:Ts w v ts) (n:Nat):Ts (w.drewN n) v ts:=
 h.of_block (Nat.le_refl _) λ_ _ _=>rfl
def zfs (ts:List Ty):List UInt8:=ts.flatMap zqy
theorem zn8 (ts:List Ty) (t:Ty):zfs (ts ++ [t])=zfs ts ++ zqy t:=by simp[zfs]
theorem zou (t:Ty) (ts:List Ty):zfs (t :: ts)=zqy t ++ zfs ts:=by simp[zfs]
theorem zn2 (t:Ty) (h:plainT t=true):(zqy t).length<=10:=by
 obtain⟨k,i,d,r⟩:=t;have h':zaB k i d r=true:=h;obtain⟨h1,h2,h3,h4⟩:=zc3 h';have hn:(zfp k i).length<=4:=by
  have q:∀ n,n<=536870911->(pkL n).length<=4:=λn hn=>by
   have:=zdR n hn;unfold zhT at this
   repeat' split at this
   all_goals omega
  unfold zfp
  repeat' split
  ·exact q _ (by omega)
  ·exact q _ (by omega)
  ·simp
 have hh:(zgA r).length<=1:=by unfold zgA;split <;> simp
 simp only[zqy,zjw,List.length_append,List.length_replicate,List.length_cons];omega
theorem zp2 (ts:List Ty) (p:Nat) (hp:∀ t,za9 p t=true->plainT t=true) (h:ts.all (za9 p)=true):(zfs ts).length<=10 * ts.length:=by
 induction ts with
 | nil=>simp[zfs]
 | cons t r ih =>
  simp only[List.all_cons,Bool.and_eq_true]at h;have h1:=zn2 t (hp t h.1);have h2:=ih h.2;rw[zou,List.length_append,List.length_cons];omega
theorem Rule.plainT {f:FuncId} {p:Nat} (h:Rule f p) (t:Ty) (ht:za9 p t=true):plainT t=true:=h.plain t.1 t.2.1 t.2.2.1 t.2.2.2 ht
set_option maxRecDepth 100000 in
theorem zgq {f:FuncId} {p:Nat} (hF:Rule f p) {w:World} {base b off cap:Nat} {v:Value} {xs:List UInt8} (hv:Own w base 5 v xs) (hbase:base<=w.heap.size) (hx:xs.length<=1000) (ts:List Ty) (hlen:ts.length<=100) (hb:b<base)
 (hcell:∀ i (h:i<ts.length),w.cell? ⟨b,off+i * 4,none⟩=some (.int .i64 ts[i].1)/\w.cell? ⟨b,off+i * 4+1,none⟩=some (.int .i64 ts[i].2.1) /\
   w.cell? ⟨b,off+i * 4+2,none⟩=some (.int .i64 ts[i].2.2.1)/\w.cell? ⟨b,off+i * 4+3,none⟩=some (.bool ts[i].2.2.2)) :
 Calls Tryz.prog 211 #[v,.slice (some ⟨b,off,none⟩) ts.length cap,.func (.func f) #[] #[]] w λe w' =>
  (ts.all (za9 p)=true->∃ v',e=.returned (.tuple #[v',.int .i64 0])/\Own w' base 5 v' (xs ++ zfs ts))/\(ts.all (za9 p)=false->e=.returned (.tuple #[.slice none 0 0,.int .i64 17]))/\Below base w w'/\Keeps w w':=by
 have HC:Hid (∀ i (h:i<ts.length),w.cell? ⟨b,off+i * 4,none⟩=some (.int .i64 ts[i].1)/\w.cell? ⟨b,off+i * 4+1,none⟩=some (.int .i64 ts[i].2.1) /\
  w.cell? ⟨b,off+i * 4+2,none⟩=some (.int .i64 ts[i].2.2.1)/\w.cell? ⟨b,off+i * 4+3,none⟩=some (.bool ts[i].2.2.2)):=hcell
 clear hcell;have HPl:Hid (∀ t,za9 p t=true->plainT t=true):=hF.plainT;go_enter Tryz.func211,Tryz.ntmps211;go_wp2;go_loopw [0,13] (λu z wr=>∃ q:Nat,q<=ts.length/\z=.int .i64 (q:Int)/\Own wr base 5 u (xs ++ zfs (ts.take q))/\Below base w wr/\Keeps w wr/\(ts.take q).all (za9 p)=true) (λ_ z _=>ts.length - (intOf z).toNat)
 case atStart=>exact⟨0,Nat.zero_le _,rfl,by simpa[zfs]using hv,Below.refl _ _,Keeps.refl _,by simp⟩
 case round =>
  obtain⟨q,hq,rfl,ho,hB,hK,hall⟩:=hrel;have hsw:=hB.size;have HO:Hid (Own wr base 5 u0 (xs ++ zfs (ts.take q))):=ho;clear hv ho;by_cases hql:q<ts.length
  ·obtain⟨c0,c1,c2,c3⟩:=HC.out q hql;have e:∀ o,wr.cell? ⟨b,o,none⟩=w.cell? ⟨b,o,none⟩:=λo=>hB.cell (p:=⟨b,o,none⟩) hb
   rw[<- e]at c0 c1 c2 c3;clear e;have HT:Hid (ts.take (q+1)=ts.take q ++ [ts[q]]):=by show _=_;rw[List.take_succ_eq_append_getElem hql]
   have HS:Hid (ts.all (za9 p)=true->za9 p ts[q]=true):=λh=>List.all_eq_true.1 h _ (List.getElem_mem hql)
   generalize ts[q]=t at *;obtain⟨k,i,d,r⟩:=t;simp only at c0 c1 c2 c3;have hle:=zp2 (ts.take q) p HPl.out hall;have hle2:(xs ++ zfs (ts.take q)).length<=1000000:=by simp at hle ⊢;omega
   have HLE:Hid ((xs ++ zfs (ts.take q)).length<=1000000):=hle2;clear hle hle2;have hbx:Below wr.heap.size wr (wr.alloc (.cells #[.int .i64 k,.int .i64 i,.int .i64 d,.bool r] 47)):=(Below.refl _ _).alloc (Nat.le_refl _) _;by_cases hm:zbO p k i d r=true
   ·have HP:Hid (Calls Tryz.prog 207 #[u0,.agg #[.int .i64 k,.int .i64 i,.int .i64 d,.bool r],.func (.func f) #[] #[]] (wr.alloc (.cells #[.int .i64 k,.int .i64 i,.int .i64 d,.bool r] 47)) λe w'=>∃ v',e=.returned (.tuple #[v',.int .i64 0])/\Own w' base 5 v' (xs ++ zfs (ts.take q) ++ zjw k i d r)/\Below base wr w'/\Keeps wr w'):=by
     refine (zc9 hF (HO.out.later hbx) (by simp;omega) HLE.out k i d r hm).mono ?_
     rintro e w' ⟨v',rfl,h1,h2,h3⟩;exact⟨v',rfl,h1,(hbx.mono (by omega)).trans h2,(Keeps.of_below hbx).trans h3⟩
    have HM:Hid (za9 p (k,i,d,r)=true):=hm;have HA:Hid ((ts.take q).all (za9 p)=true):=hall;clear hall hbx hm;go_wp2_with fail
    refine Calls.mono HP.out ?_;rintro e w2 ⟨v2,rfl,ho2,hb2,hk2⟩;go_wp2;go_roundw
    case rel=>exact⟨q+1,by omega,by go_num,by rw[HT.out,zn8,<- List.append_assoc];exact ho2,hB.trans hb2,hK.trans hk2,by rw[HT.out,List.all_append,HA.out];simpa using HM.out⟩
    case measure=>simp[intOf];omega
   ·have hm':zbO p k i d r=false:=by simpa using hm
    have HNA:Hid (ts.all (za9 p)=false):=by
     show _=_
     rcases hz:ts.all (za9 p) with _ | _
     ·rfl
     ·exact absurd (HS.out hz) (by simp[za9,hm'])
    have HP:Hid (Calls Tryz.prog 207 #[u0,.agg #[.int .i64 k,.int .i64 i,.int .i64 d,.bool r],.func (.func f) #[] #[]] (wr.alloc (.cells #[.int .i64 k,.int .i64 i,.int .i64 d,.bool r] 47)) λe w'=>e=.returned (.tuple #[.slice none 0 0,.int .i64 17])/\Below base w w'/\Keeps w w'):=by
     refine (zdX hF _ u0 k i d r hm').mono ?_;rintro e w' ⟨rfl,h2⟩;exact⟨rfl,hB.trans ((zaA h2).mono (by omega)),hK.trans (Keeps.of_below (zaA h2))⟩
    clear hm hm' hall;go_wp2_with fail
    refine Calls.mono HP.out ?_;rintro e w2 ⟨rfl,hb2,hk2⟩;go_wp2;go_ret2
    exact⟨λh=>absurd h (by rw[HNA.out];decide),λ_=>rfl,hb2,hk2⟩
  ·have hqq:q=ts.length:=by omega
   subst hqq;rw[List.take_length]at HO hall;have HA:Hid (ts.all (za9 p)=true):=hall;clear hall;go_wp2;go_ret2
   exact⟨λ_=>⟨_,rfl,HO.out⟩,λh=>absurd HA.out (by rw[h];decide),hB,hK⟩
theorem zhf {f:FuncId} {v:Value} {x:Option Addr} {cap:Nat} (w:World) :
 Calls Tryz.prog 211 #[v,.slice x 0 cap,.func (.func f) #[] #[]] w λe w'=>e=.returned (.tuple #[v,.int .i64 0])/\w'=w:=by
 go_enter Tryz.func211,Tryz.ntmps211;go_wp2;go_loopw [0,13] (λu z wr=>z=.int .i64 0/\u=v/\wr=w) (λ_ z _=>0)
 case atStart=>exact⟨rfl,rfl,rfl⟩
 case round =>
  obtain⟨rfl,rfl,rfl⟩:=hrel;go_wp2;go_ret2
  exact⟨rfl,rfl⟩
theorem zcs {f:FuncId} {p:Nat} (hF:Rule f p) {w:World} {base:Nat} {v lv:Value} {xs:List UInt8} (hv:Own w base 5 v xs) (hbase:base<=w.heap.size) (hx:xs.length<=1000) {ts:List Ty} (hT:Ts w lv ts) (hlen:ts.length<=100) (hb:ts≠[]->∀ k,lv.ownBlock=some k->k<base) :
 Calls Tryz.prog 211 #[v,lv,.func (.func f) #[] #[]] w λe w' =>
  (ts.all (za9 p)=true->∃ v',e=.returned (.tuple #[v',.int .i64 0])/\Own w' base 5 v' (xs ++ zfs ts))/\(ts.all (za9 p)=false->e=.returned (.tuple #[.slice none 0 0,.int .i64 17]))/\Below base w w'/\Keeps w w':=by
 obtain⟨a,cap,rfl,h1,h2,h3⟩:=hT;by_cases hne:ts=[]
 ·subst hne;refine (zhf w).mono ?_;rintro e w' ⟨rfl,rfl⟩;exact⟨λ_=>⟨v,rfl,by simpa[zfs]using hv⟩,λh=>by simp at h,Below.refl _ _,Keeps.refl _⟩
 ·obtain⟨b,off,rfl,hb1,hc⟩:=h3 hne;exact zgq hF hv hbase hx ts hlen (hb hne b rfl) hc
theorem zd4 (c:Nat) (hc:c<256) (n:Nat) (hn:n<=100) (x:Option Addr) (cap:Nat) (w:World) (base:Nat) (hbase:base<=w.heap.size) :
 Calls Tryz.prog 209 #[.int .u8 (c:Int),.slice x n cap] w λe w'=>∃ v,e=.returned v/\Own w' base 5 v [UInt8.ofNat c,UInt8.ofNat n]/\Below w.heap.size w w':=by
 have hp:pkL n=[UInt8.ofNat n]:=by unfold pkL;rw[if_pos (by omega)]
 have hlit:Own (w.alloc (.cells #[.int .u8 (c:Int)] 5)) base 5 (.slice (some ⟨w.heap.size,0,none⟩) 1 1) [UInt8.ofNat c]:=Own.lit w base 5 [UInt8.ofNat c] _ 1 hbase (by simp[u8s];omega) rfl (by simp[maxLen])
 have HP:Hid (Calls Tryz.prog 230 #[.slice (some ⟨w.heap.size,0,none⟩) 1 1,.int .i64 (n:Int)] (w.alloc (.cells #[.int .u8 (c:Int)] 5)) λe w'=>∃ v',e=.returned (.tuple #[v',.int .i64 0])/\Own w' base 5 v' [UInt8.ofNat c,UInt8.ofNat n]/\Below w.heap.size w w'):=by
  refine (zdB hlit (by simp) (by simp;omega) n (by omega)).mono ?_
  rintro e w' ⟨v',rfl,h1,h2⟩;rw[hp]at h1;exact⟨v',rfl,h1,((Below.refl _ _).alloc (Nat.le_refl _) _).trans (h2.mono (by simp))⟩
 clear hlit hp;go_enter Tryz.func209,Tryz.ntmps209;go_wp2_with fail
 refine Calls.mono HP.out ?_;rintro e w1 ⟨v1,rfl,h1,h2⟩;go_wp2;go_ret;exact⟨_,rfl,h1,h2⟩
def hdN (this:Bool):Nat:=if this then 32 else 0
def zvU (this:Bool) (ts:List Ty) (ret:Ty):List UInt8:=UInt8.ofNat (hdN this) :: UInt8.ofNat ts.length :: (zqy ret ++ zfs ts)
def zdS (ts:List Ty) (ret:Ty):Nat:=if 6<ts.length then 4 else if za9 3 ret=true/\ts.all (za9 2)=true then 0 else 17
def zxR (ts:List Ty):List UInt8:=7 :: UInt8.ofNat ts.length :: zfs ts
def zfr (ts:List Ty):Nat:=if 12<ts.length then 4 else if ts.all (za9 2)=true then 0 else 17
def zxS (w w':World) (bs:List UInt8) (er:Nat) (e:Ending):Prop:=
 (er=0->∃ v',e=.returned (.tuple #[v',.int .i64 0])/\Own w' w.heap.size 5 v' bs)/\(er≠0->e=.returned (.tuple #[.slice none 0 0,.int .i64 (er:Int)]))/\Below w.heap.size w w'
set_option maxRecDepth 100000 in
theorem znb {w:World} {pv:Value} {ts:List Ty} (hT:Ts w pv ts) (this:Bool) (k i d:Int) (r:Bool) :
 Calls Tryz.prog 189 #[.agg #[.bool this,pv,.int .i64 k,.int .i64 i,.int .i64 d,.bool r]] w λe w'=>zxS w w' (zvU this ts (k,i,d,r)) (zdS ts (k,i,d,r)) e:=by
 obtain⟨pa,pc,rfl,hp1,hp2,hp3⟩:=id hT;unfold maxLen at hp2;have hb0:Below w.heap.size w (w.alloc (.cells #[.bool this,.slice pa ts.length pc,.int .i64 k,.int .i64 i,.int .i64 d,.bool r] 164)):=(Below.refl _ _).alloc (Nat.le_refl _) _;have hS0:=At.made w #[.bool this,.slice pa ts.length pc,.int .i64 k,.int .i64 i,.int .i64 d,.bool r] 164;by_cases h6:6<ts.length
 ·have HE:Hid (zdS ts (k,i,d,r)=4):=by show _=_;unfold zdS;rw[if_pos h6]
  clear hT hp3 hS0;go_enter Tryz.func189,Tryz.ntmps189;go_wp2;go_ret2
  exact⟨λh=>absurd h (by rw[HE.out];decide),λ_=>by rw[HE.out];rfl,hb0⟩
 ·have HT:Hid (Ts w (.slice pa ts.length pc) ts):=hT;have hlen:ts.length<=6:=by omega
  have HPC:Hid (∀ W:World,w.heap.size<=W.heap.size->Calls Tryz.prog 209 #[.int .u8 (hdN this:Int),.slice pa ts.length pc] W λe w'=>∃ v,e=.returned v/\Own w' w.heap.size 5 v [UInt8.ofNat (hdN this),UInt8.ofNat ts.length]/\Below W.heap.size W w'):=λW hW=>by
   refine (zd4 (hdN this) (by unfold hdN;split <;> omega) ts.length (by omega) pa pc W w.heap.size hW).mono ?_
   rintro e w' ⟨v,rfl,h1,h2⟩;exact⟨v,rfl,h1,h2⟩
  have HKP:Hid (∀ W,At W w.heap.size #[.bool this,.slice pa ts.length pc,.int .i64 k,.int .i64 i,.int .i64 d,.bool r] 164->W.cell? ⟨w.heap.size,1,none⟩=some (.slice pa ts.length pc)/\W.cell? ⟨w.heap.size,2,none⟩=some (.int .i64 k)/\W.cell? ⟨w.heap.size,3,none⟩=some (.int .i64 i)/\W.cell? ⟨w.heap.size,4,none⟩=some (.int .i64 d)/\W.cell? ⟨w.heap.size,5,none⟩=some (.bool r)):=λW hW=>by
   simp[hW.cell]
  clear hT hp3;by_cases hm:zbO 3 k i d r=true
  ·have HPT:Hid (∀ (W:World) (v:Value),Own W w.heap.size 5 v [UInt8.ofNat (hdN this),UInt8.ofNat ts.length]->w.heap.size<=W.heap.size->Calls Tryz.prog 207 #[v,.agg #[.int .i64 k,.int .i64 i,.int .i64 d,.bool r],.func (.func 210) #[] #[]] W λe w'=>∃ v',e=.returned (.tuple #[v',.int .i64 0])/\Own w' w.heap.size 5 v' ([UInt8.ofNat (hdN this),UInt8.ofNat ts.length] ++ zjw k i d r)/\Below w.heap.size W w'/\Keeps W w'):=
    λW v hv hW=>zc9 zc8 hv hW (by simp) k i d r hm
   have HL:Hid (([UInt8.ofNat (hdN this),UInt8.ofNat ts.length] ++ zjw k i d r).length<=1000):=by
    have:=zn2 (k,i,d,r) (zc8.plainT (k,i,d,r) hm);have e:zqy (k,i,d,r)=zjw k i d r:=rfl;rw[e]at this;show _<=_;simp;omega
   have HE1:Hid (ts.all (za9 2)=true->zdS ts (k,i,d,r)=0):=λh=>by unfold zdS;rw[if_neg h6,if_pos ⟨hm,h⟩]
   have HE2:Hid (ts.all (za9 2)=false->zdS ts (k,i,d,r)=17):=λh=>by unfold zdS;rw[if_neg h6,if_neg (by rw[h];simp)]
   clear hm
   cases this with
   | true =>
    go_enter Tryz.func189,Tryz.ntmps189;go_wp2_with fail
    go_region_held3 (λw'=>w'.cell? ⟨w.heap.size,1,none⟩=some (.slice pa ts.length pc)/\w'.cell? ⟨w.heap.size,2,none⟩=some (.int .i64 k)/\w'.cell? ⟨w.heap.size,3,none⟩=some (.int .i64 i)/\w'.cell? ⟨w.heap.size,4,none⟩=some (.int .i64 d)/\w'.cell? ⟨w.heap.size,5,none⟩=some (.bool r)) (first | go_keep | (exact HKP.out _ hA1) | (exact HKP.out _ hA2))
     (first
       | (go_at_call 209;refine (HPC.out _ (by simp)).mono ?_;rintro e w1 ⟨v1,rfl,ho1,hb1⟩;have hA1:=(hS0.drewN 1).later hb1)
       | (go_at_call 207;refine (HPT.out _ v1 ho1 (by have:=hb1.size;simp at this;omega)).mono ?_;rintro e w2 ⟨v2,rfl,ho2,hb2,hk2⟩;have hA2:=hk2 _ _ _ (by decide) hA1))
    rename_i hheld
    clear hheld;have hB2:Below w.heap.size w w2:=(Below.drewN hb0 1).trans ((hb1.mono (by simp)).trans hb2)
    have tc:=hA2.cell;have HPs:Hid (Calls Tryz.prog 211 #[v2,.slice pa ts.length pc,.func (.func 212) #[] #[]] w2 λe w' =>
     (ts.all (za9 2)=true->∃ v',e=.returned (.tuple #[v',.int .i64 0])/\Own w' w.heap.size 5 v' ([UInt8.ofNat (hdN true),UInt8.ofNat ts.length] ++ zjw k i d r ++ zfs ts))/\(ts.all (za9 2)=false->e=.returned (.tuple #[.slice none 0 0,.int .i64 17]))/\Below w.heap.size w2 w'/\Keeps w2 w'):=
     zcs zgx ho2 hB2.size HL.out (HT.out.later hB2) (by omega) λhne=>HT.out.lt hne
    clear ho1 hb1 hA1 ho2 hb2 hk2 hA2 HPC HPT HKP hS0;go_wp2_with fail
    refine Calls.mono HPs.out ?_;rintro e w3 ⟨g1,g2,g3,g4⟩
    rcases hall:ts.all (za9 2) with _ | _
    ·obtain rfl:=g2 hall;have HA:Hid (zdS ts (k,i,d,r)=17):=HE2.out hall;clear g1 g2 hall;go_wp2;go_ret2
     exact⟨λh=>absurd h (by rw[HA.out];decide),λ_=>by rw[HA.out];rfl,hB2.trans g3⟩
    ·obtain⟨v3,rfl,h3⟩:=g1 hall;have HA:Hid (zdS ts (k,i,d,r)=0):=HE1.out hall;clear g1 g2 hall;go_wp2;go_ret2
     exact⟨λ_=>⟨_,rfl,by simpa[zvU,zqy]using h3⟩,λh=>absurd HA.out h,hB2.trans g3⟩
   | false =>
    go_enter Tryz.func189,Tryz.ntmps189;go_wp2_with fail
    go_region_held3 (λw'=>w'.cell? ⟨w.heap.size,1,none⟩=some (.slice pa ts.length pc)/\w'.cell? ⟨w.heap.size,2,none⟩=some (.int .i64 k)/\w'.cell? ⟨w.heap.size,3,none⟩=some (.int .i64 i)/\w'.cell? ⟨w.heap.size,4,none⟩=some (.int .i64 d)/\w'.cell? ⟨w.heap.size,5,none⟩=some (.bool r)) (first | go_keep | (exact HKP.out _ hA1) | (exact HKP.out _ hA2))
     (first
       | (go_at_call 209;refine (HPC.out _ (by simp)).mono ?_;rintro e w1 ⟨v1,rfl,ho1,hb1⟩;have hA1:=(hS0.drewN 1).later hb1)
       | (go_at_call 207;refine (HPT.out _ v1 ho1 (by have:=hb1.size;simp at this;omega)).mono ?_;rintro e w2 ⟨v2,rfl,ho2,hb2,hk2⟩;have hA2:=hk2 _ _ _ (by decide) hA1))
    rename_i hheld
    clear hheld;have hB2:Below w.heap.size w w2:=(Below.drewN hb0 1).trans ((hb1.mono (by simp)).trans hb2)
    have tc:=hA2.cell;have HPs:Hid (Calls Tryz.prog 211 #[v2,.slice pa ts.length pc,.func (.func 212) #[] #[]] w2 λe w' =>
     (ts.all (za9 2)=true->∃ v',e=.returned (.tuple #[v',.int .i64 0])/\Own w' w.heap.size 5 v' ([UInt8.ofNat (hdN false),UInt8.ofNat ts.length] ++ zjw k i d r ++ zfs ts))/\(ts.all (za9 2)=false->e=.returned (.tuple #[.slice none 0 0,.int .i64 17]))/\Below w.heap.size w2 w'/\Keeps w2 w'):=
     zcs zgx ho2 hB2.size HL.out (HT.out.later hB2) (by omega) λhne=>HT.out.lt hne
    clear ho1 hb1 hA1 ho2 hb2 hk2 hA2 HPC HPT HKP hS0;go_wp2_with fail
    refine Calls.mono HPs.out ?_;rintro e w3 ⟨g1,g2,g3,g4⟩
    rcases hall:ts.all (za9 2) with _ | _
    ·obtain rfl:=g2 hall;have HA:Hid (zdS ts (k,i,d,r)=17):=HE2.out hall;clear g1 g2 hall;go_wp2;go_ret2
     exact⟨λh=>absurd h (by rw[HA.out];decide),λ_=>by rw[HA.out];rfl,hB2.trans g3⟩
    ·obtain⟨v3,rfl,h3⟩:=g1 hall;have HA:Hid (zdS ts (k,i,d,r)=0):=HE1.out hall;clear g1 g2 hall;go_wp2;go_ret2
     exact⟨λ_=>⟨_,rfl,by simpa[zvU,zqy]using h3⟩,λh=>absurd HA.out h,hB2.trans g3⟩
  ·have hm':zbO 3 k i d r=false:=by simpa using hm
   have HPT:Hid (∀ (W:World) (v:Value),Calls Tryz.prog 207 #[v,.agg #[.int .i64 k,.int .i64 i,.int .i64 d,.bool r],.func (.func 210) #[] #[]] W λe w'=>e=.returned (.tuple #[.slice none 0 0,.int .i64 17])/\Below W.heap.size W w'):=
    λW v=>zdX zc8 W v k i d r hm'
   have HE:Hid (zdS ts (k,i,d,r)=17):=by show _=_;unfold zdS;rw[if_neg h6,if_neg (by simp[za9,hm'])]
   clear hm hm'
   cases this with
   | true =>
    go_enter Tryz.func189,Tryz.ntmps189;go_wp2_with fail
    go_region_held3 (λw'=>w'.cell? ⟨w.heap.size,1,none⟩=some (.slice pa ts.length pc)/\w'.cell? ⟨w.heap.size,2,none⟩=some (.int .i64 k)/\w'.cell? ⟨w.heap.size,3,none⟩=some (.int .i64 i)/\w'.cell? ⟨w.heap.size,4,none⟩=some (.int .i64 d)/\w'.cell? ⟨w.heap.size,5,none⟩=some (.bool r)) (first | go_keep | (exact HKP.out _ hA1) | (exact HKP.out _ hA2))
     (first
       | (go_at_call 209;refine (HPC.out _ (by simp)).mono ?_;rintro e w1 ⟨v1,rfl,ho1,hb1⟩;have hA1:=(hS0.drewN 1).later hb1)
       | (go_at_call 207;refine (HPT.out _ v1).mono ?_;rintro e w2 ⟨rfl,hb2⟩;have hA2:=hA1.later hb2))
    rename_i hheld
    clear hheld;have hB2:Below w.heap.size w w2:=(Below.drewN hb0 1).trans ((hb1.mono (by simp)).trans (hb2.mono (by have:=hb1.size;simp at this;omega)))
    clear ho1 hb1 hA1 hb2 hA2 HPC HPT HKP hS0;go_wp2;go_ret2
    exact⟨λh=>absurd h (by rw[HE.out];decide),λ_=>by rw[HE.out];rfl,hB2⟩
   | false =>
    go_enter Tryz.func189,Tryz.ntmps189;go_wp2_with fail
    go_region_held3 (λw'=>w'.cell? ⟨w.heap.size,1,none⟩=some (.slice pa ts.length pc)/\w'.cell? ⟨w.heap.size,2,none⟩=some (.int .i64 k)/\w'.cell? ⟨w.heap.size,3,none⟩=some (.int .i64 i)/\w'.cell? ⟨w.heap.size,4,none⟩=some (.int .i64 d)/\w'.cell? ⟨w.heap.size,5,none⟩=some (.bool r)) (first | go_keep | (exact HKP.out _ hA1) | (exact HKP.out _ hA2))
     (first
       | (go_at_call 209;refine (HPC.out _ (by simp)).mono ?_;rintro e w1 ⟨v1,rfl,ho1,hb1⟩;have hA1:=(hS0.drewN 1).later hb1)
       | (go_at_call 207;refine (HPT.out _ v1).mono ?_;rintro e w2 ⟨rfl,hb2⟩;have hA2:=hA1.later hb2))
    rename_i hheld
    clear hheld;have hB2:Below w.heap.size w w2:=(Below.drewN hb0 1).trans ((hb1.mono (by simp)).trans (hb2.mono (by have:=hb1.size;simp at this;omega)))
    clear ho1 hb1 hA1 hb2 hA2 HPC HPT HKP hS0;go_wp2;go_ret2
    exact⟨λh=>absurd h (by rw[HE.out];decide),λ_=>by rw[HE.out];rfl,hB2⟩
set_option maxRecDepth 100000 in
theorem zg1 {w:World} {pv:Value} {ts:List Ty} (hT:Ts w pv ts) :
 Calls Tryz.prog 192 #[pv] w λe w'=>zxS w w' (zxR ts) (zfr ts) e:=by
 obtain⟨pa,pc,rfl,hp1,hp2,hp3⟩:=id hT;unfold maxLen at hp2;by_cases h12:12<ts.length
 ·have HE:Hid (zfr ts=4):=by show _=_;unfold zfr;rw[if_pos h12]
  clear hT hp3;go_enter Tryz.func192,Tryz.ntmps192;go_wp2;go_ret2
  exact⟨λh=>absurd h (by rw[HE.out];decide),λ_=>by rw[HE.out];rfl,Below.refl _ _⟩
 ·have HE1:Hid (ts.all (za9 2)=true->zfr ts=0):=λh=>by unfold zfr;rw[if_neg h12,if_pos h]
  have HE2:Hid (ts.all (za9 2)=false->zfr ts=17):=λh=>by unfold zfr;rw[if_neg h12,if_neg (by rw[h];simp)]
  have HPC:Hid (Calls Tryz.prog 209 #[.int .u8 7,.slice pa ts.length pc] w λe w'=>∃ v,e=.returned v/\Own w' w.heap.size 5 v [7,UInt8.ofNat ts.length]/\Below w.heap.size w w'):=zd4 7 (by omega) ts.length (by omega) pa pc w w.heap.size (Nat.le_refl _)
  have HT:Hid (Ts w (.slice pa ts.length pc) ts):=hT;clear hT hp3;go_enter Tryz.func192,Tryz.ntmps192;go_wp2_with fail
  refine Calls.mono HPC.out ?_;rintro e w1 ⟨v1,rfl,ho1,hb1⟩;have HPs:Hid (Calls Tryz.prog 211 #[v1,.slice pa ts.length pc,.func (.func 212) #[] #[]] w1 λe w' =>
   (ts.all (za9 2)=true->∃ v',e=.returned (.tuple #[v',.int .i64 0])/\Own w' w.heap.size 5 v' ([7,UInt8.ofNat ts.length] ++ zfs ts))/\(ts.all (za9 2)=false->e=.returned (.tuple #[.slice none 0 0,.int .i64 17]))/\Below w.heap.size w1 w'/\Keeps w1 w'):=
   zcs zgx ho1 hb1.size (by simp) (HT.out.later hb1) (by omega) λhne=>HT.out.lt hne
  clear ho1;go_wp2_with fail
  refine Calls.mono HPs.out ?_;rintro e w3 ⟨g1,g2,g3,g4⟩
  rcases hall:ts.all (za9 2) with _ | _
  ·obtain rfl:=g2 hall;have HA:Hid (zfr ts=17):=HE2.out hall;clear g1 g2 hall;go_wp2;go_ret2
   exact⟨λh=>absurd h (by rw[HA.out];decide),λ_=>by rw[HA.out];rfl,hb1.trans g3⟩
  ·obtain⟨v3,rfl,h3⟩:=g1 hall;have HA:Hid (zfr ts=0):=HE1.out hall;clear g1 g2 hall;go_wp2;go_ret2
   exact⟨λ_=>⟨_,rfl,by simpa[zxR]using h3⟩,λh=>absurd HA.out h,hb1.trans g3⟩
structure TD where
 nm:ByteArray
 fl:Int
 ex:Int
 fa:Option Addr
 fc:Nat
 fs:List Int
structure FD where
 nm:ByteArray
 ow:Int
 t:Ty
 st:Bool
structure MD where
 nm:ByteArray
 ow:Int
 fl:Int
 pa:Option Addr
 pc:Nat
 ps:List Ty
 rt:Ty
 la:Option Addr
 lc:Nat
 ls:List Ty
 mx:Int
 ca:Option Addr
 cc:Nat
 co:List Ins
 ka:Option Addr
 kc:Nat
 cl:List Cl
structure Img where
 ta:Option Addr
 tc:Nat
 ts:List TD
 fa:Option Addr
 fc:Nat
 fs:List FD
 ma:Option Addr
 mc:Nat
 ms:List MD
 en:Int
def zam (i:Int) (n:Nat):Bool:=decide (0<=i)&&decide (i<n)
def zb7 (i last:Int):Bool:=decide (0<=i)&&decide (i<=last)
def zcj (n:Nat) (t:Ty):Bool:=if t.1=5∨t.1=6 then zam t.2.1 n else true
def zrh (n:Nat) (t:Ty):Bool:=za9 1 t&&zcj n t
def ztc (n nf nm len:Nat) (x:Ins):Bool:=if opP x.1=5 then zam x.2.1 len else if opP x.1=6 then zam x.2.1 nm else if opP x.1=7 then zam x.2.1 nf else if opP x.1=8 then zcj n x.2.2 else true
def zpG (x:Ins):Int:=zge x.1 x.2.1 x.2.2.1 x.2.2.2.1 x.2.2.2.2.1 x.2.2.2.2.2
def zfz (n nf nm len:Nat) (x:Ins):Bool:=decide (zpG x=0)&&ztc n nf nm len x
def zgb (n:Nat) (c:Cl):Bool:=if c.k=1 then zrh n (c.t0,c.t1,c.t2,c.t3) else c.t0==0&&c.t1==0&&c.t2==0&&!c.t3
def zjA (n:Int) (l:List Cl):Bool:=@decide (zdD n l) (by unfold zdD;exact inferInstance)
def zdH:List Int->Bool
 | a :: b :: r=>decide (a<=b)&&zdH (b :: r)
 | _=>true
def tdB (n:Nat) (x:TD):Bool:=zaP x.nm.data.toList&&zb7 x.fl 31&&(decide (x.ex = -1)||zam x.ex n)&&decide (x.fs.length<=4)&&x.fs.all (λi=>zam i n)
def fdB (n:Nat) (x:FD):Bool:=zaP x.nm.data.toList&&zam x.ow n&&zrh n x.t
def mdB (n nf nm:Nat) (x:MD):Bool:=
 zaP x.nm.data.toList&&zam x.ow n&&zb7 x.fl 31&&zb7 x.mx 12&&(decide (zdS x.ps x.rt=0)&&zcj n x.rt&&x.ps.all (zcj n))&&(decide (zfr x.ls=0)&&x.ls.all (zcj n)) &&
  (decide (x.co.length<=160)&&x.co.all (zfz n nf nm x.co.length))&&(zjA x.co.length x.cl&&x.cl.all (zgb n))
def imB (g:Img):Bool:=
 decide (g.ts.length<=32)&&decide (g.fs.length<=64)&&decide (g.ms.length<=64)&&g.ts.all (tdB g.ts.length)&&(g.fs.all (fdB g.ts.length)&&zdH (g.fs.map (·.ow))) &&
  (g.ms.all (mdB g.ts.length g.fs.length g.ms.length)&&zdH (g.ms.map (·.ow)))&&(decide (g.en = -1)||zam g.en g.ms.length)
def TD.like (x y:TD):Prop:=x.nm=y.nm/\x.fl=y.fl/\x.ex=y.ex/\x.fs=y.fs
def MD.like (x y:MD):Prop:=x.nm=y.nm/\x.ow=y.ow/\x.fl=y.fl/\x.ps=y.ps/\x.rt=y.rt/\x.ls=y.ls/\x.mx=y.mx/\x.co=y.co/\x.cl=y.cl
def Img.like (g h:Img):Prop:=g.ts.length=h.ts.length/\(∀ i (h1:i<g.ts.length) (h2:i<h.ts.length),(g.ts[i]).like (h.ts[i]))/\g.fs=h.fs/\g.ms.length=h.ms.length/\(∀ i (h1:i<g.ms.length) (h2:i<h.ms.length),(g.ms[i]).like (h.ms[i]))/\g.en=h.en
theorem zeO:∀ l:List Int,zdH l=true↔∀ i (h:i+1<l.length),l[i]<=l[i+1]
 | []=>by simp[zdH]
 | [a]=>by simp[zdH]
 | a :: b :: r=>by
  have ih:=zeO (b :: r);simp only[zdH,Bool.and_eq_true,decide_eq_true_eq,ih];constructor
  ·rintro⟨h1,h2⟩ i hi
   cases i with
   | zero=>simpa using h1
   | succ j=>exact h2 j (by simpa using hi)
  ·intro h;exact⟨h 0 (by simp),λi hi=>h (i+1) (by simpa using hi)⟩
def tyC (x:Ty):List Value:=[.int .i64 x.1,.int .i64 x.2.1,.int .i64 x.2.2.1,.bool x.2.2.2]
def tyE:Enc Ty:=⟨tyC,4,by decide,λ_=>rfl,λx u hu=>by
 simp only[tyC,List.mem_cons,List.not_mem_nil,or_false]at hu
 rcases hu with rfl | rfl | rfl | rfl <;> rfl⟩
def zvQ (x:Ins):List Value:=[.int .i64 x.1,.int .i64 x.2.1,.int .i64 x.2.2.1,.int .i64 x.2.2.2.1,.int .i64 x.2.2.2.2.1,.bool x.2.2.2.2.2]
def zcv:Enc Ins:=⟨zvQ,6,by decide,λ_=>rfl,λx u hu=>by
 simp only[zvQ,List.mem_cons,List.not_mem_nil,or_false]at hu
 rcases hu with rfl | rfl | rfl | rfl | rfl | rfl <;> rfl⟩
def zvO (x:Int):List Value:=[.int .i64 x]
def zch:Enc Int:=⟨zvO,1,by decide,λ_=>rfl,λx u hu=>by
 simp only[zvO,List.mem_cons,List.not_mem_nil,or_false]at hu
 rcases hu with rfl <;> rfl⟩
def zew (x:Int):Value:=.int .i64 x
def tdC (x:TD):List Value:=[.string x.nm,.int .i64 x.fl,.int .i64 x.ex,.slice x.fa x.fs.length x.fc]
def tdE:Enc TD:=⟨tdC,4,by decide,λ_=>rfl,λx u hu=>by
 simp only[tdC,List.mem_cons,List.not_mem_nil,or_false]at hu
 rcases hu with rfl | rfl | rfl | rfl <;> rfl⟩
def tdV (x:TD):Value:=.agg #[.string x.nm,.int .i64 x.fl,.int .i64 x.ex,.slice x.fa x.fs.length x.fc]
def fdC (x:FD):List Value:=[.string x.nm,.int .i64 x.ow,.int .i64 x.t.1,.int .i64 x.t.2.1,.int .i64 x.t.2.2.1,.bool x.t.2.2.2,.bool x.st]
def fdE:Enc FD:=⟨fdC,7,by decide,λ_=>rfl,λx u hu=>by
 simp only[fdC,List.mem_cons,List.not_mem_nil,or_false]at hu
 rcases hu with rfl | rfl | rfl | rfl | rfl | rfl | rfl <;> rfl⟩
def fdV (x:FD):Value:=.agg #[.string x.nm,.int .i64 x.ow,.int .i64 x.t.1,.int .i64 x.t.2.1,.int .i64 x.t.2.2.1,.bool x.t.2.2.2,.bool x.st]
def mdC (x:MD):List Value:=[.string x.nm,.int .i64 x.ow,.int .i64 x.fl,.slice x.pa x.ps.length x.pc,.int .i64 x.rt.1,.int .i64 x.rt.2.1,.int .i64 x.rt.2.2.1,.bool x.rt.2.2.2,.slice x.la x.ls.length x.lc,.int .i64 x.mx,.slice x.ca x.co.length x.cc,.slice x.ka x.cl.length x.kc]
def mdE:Enc MD:=⟨mdC,12,by decide,λ_=>rfl,λx u hu=>by
 simp only[mdC,List.mem_cons,List.not_mem_nil,or_false]at hu
 rcases hu with rfl | rfl | rfl | rfl | rfl | rfl | rfl | rfl | rfl | rfl | rfl | rfl <;> rfl⟩
def mdV (x:MD):Value:=.agg #[.string x.nm,.int .i64 x.ow,.int .i64 x.fl,.slice x.pa x.ps.length x.pc,.int .i64 x.rt.1,.int .i64 x.rt.2.1,.int .i64 x.rt.2.2.1,.bool x.rt.2.2.2,.slice x.la x.ls.length x.lc,.int .i64 x.mx,.slice x.ca x.co.length x.cc,.slice x.ka x.cl.length x.kc]
theorem El.cells_Y {w:World} {b o:Nat} {x:Ty} (h:El tyE w b o x):w.cell? ⟨b,o,none⟩=some (.int .i64 x.1)/\w.cell? ⟨b,o+1,none⟩=some (.int .i64 x.2.1)/\w.cell? ⟨b,o+2,none⟩=some (.int .i64 x.2.2.1)/\w.cell? ⟨b,o+3,none⟩=some (.bool x.2.2.2):=
 ⟨h 0 _ rfl,h 1 _ rfl,h 2 _ rfl,h 3 _ rfl⟩
theorem El.cells_I {w:World} {b o:Nat} {x:Ins} (h:El zcv w b o x):w.cell? ⟨b,o,none⟩=some (.int .i64 x.1)/\w.cell? ⟨b,o+1,none⟩=some (.int .i64 x.2.1)/\w.cell? ⟨b,o+2,none⟩=some (.int .i64 x.2.2.1)/\w.cell? ⟨b,o+3,none⟩=some (.int .i64 x.2.2.2.1)/\w.cell? ⟨b,o+4,none⟩=some (.int .i64 x.2.2.2.2.1)/\w.cell? ⟨b,o+5,none⟩=some (.bool x.2.2.2.2.2):=
 ⟨h 0 _ rfl,h 1 _ rfl,h 2 _ rfl,h 3 _ rfl,h 4 _ rfl,h 5 _ rfl⟩
theorem El.cells_N {w:World} {b o q:Nat} {x:Int} (h:El zch w b (o+q * 1) x):w.cell? ⟨b,o+q,none⟩=some (.int .i64 x):=by
 have:=h 0 _ rfl;simpa using this
theorem El.cells_T {w:World} {b o:Nat} {x:TD} (h:El tdE w b o x):w.cell? ⟨b,o,none⟩=some (.string x.nm)/\w.cell? ⟨b,o+1,none⟩=some (.int .i64 x.fl)/\w.cell? ⟨b,o+2,none⟩=some (.int .i64 x.ex)/\w.cell? ⟨b,o+3,none⟩=some (.slice x.fa x.fs.length x.fc):=
 ⟨h 0 _ rfl,h 1 _ rfl,h 2 _ rfl,h 3 _ rfl⟩
theorem El.cells_F {w:World} {b o:Nat} {x:FD} (h:El fdE w b o x):w.cell? ⟨b,o,none⟩=some (.string x.nm)/\w.cell? ⟨b,o+1,none⟩=some (.int .i64 x.ow)/\w.cell? ⟨b,o+2,none⟩=some (.int .i64 x.t.1)/\w.cell? ⟨b,o+3,none⟩=some (.int .i64 x.t.2.1)/\w.cell? ⟨b,o+4,none⟩=some (.int .i64 x.t.2.2.1)/\w.cell? ⟨b,o+5,none⟩=some (.bool x.t.2.2.2)/\w.cell? ⟨b,o+6,none⟩=some (.bool x.st):=
 ⟨h 0 _ rfl,h 1 _ rfl,h 2 _ rfl,h 3 _ rfl,h 4 _ rfl,h 5 _ rfl,h 6 _ rfl⟩
theorem El.cells_M {w:World} {b o:Nat} {x:MD} (h:El mdE w b o x):w.cell? ⟨b,o,none⟩=some (.string x.nm)/\w.cell? ⟨b,o+1,none⟩=some (.int .i64 x.ow)/\w.cell? ⟨b,o+2,none⟩=some (.int .i64 x.fl)/\w.cell? ⟨b,o+3,none⟩=some (.slice x.pa x.ps.length x.pc) /\
 w.cell? ⟨b,o+4,none⟩=some (.int .i64 x.rt.1)/\w.cell? ⟨b,o+5,none⟩=some (.int .i64 x.rt.2.1)/\w.cell? ⟨b,o+6,none⟩=some (.int .i64 x.rt.2.2.1)/\w.cell? ⟨b,o+7,none⟩=some (.bool x.rt.2.2.2) /\
 w.cell? ⟨b,o+8,none⟩=some (.slice x.la x.ls.length x.lc)/\w.cell? ⟨b,o+9,none⟩=some (.int .i64 x.mx)/\w.cell? ⟨b,o+10,none⟩=some (.slice x.ca x.co.length x.cc)/\w.cell? ⟨b,o+11,none⟩=some (.slice x.ka x.cl.length x.kc):=
 ⟨h 0 _ rfl,h 1 _ rfl,h 2 _ rfl,h 3 _ rfl,h 4 _ rfl,h 5 _ rfl,h 6 _ rfl,h 7 _ rfl,h 8 _ rfl,h 9 _ rfl,h 10 _ rfl,h 11 _ rfl⟩
def TD.ok (w:World) (x:TD):Prop:=Es zch w (.slice x.fa x.fs.length x.fc) x.fs
structure MD.ok (w:World) (x:MD):Prop where
 ps:Es tyE w (.slice x.pa x.ps.length x.pc) x.ps
 ls:Es tyE w (.slice x.la x.ls.length x.lc) x.ls
 co:Es zcv w (.slice x.ca x.co.length x.cc) x.co
 cl:Es zci w (.slice x.ka x.cl.length x.kc) x.cl
theorem TD.ok.later {w w':World} {x:TD} (h:x.ok w) (hb:Below w.heap.size w w'):x.ok w':=Es.later h hb
theorem MD.ok.later {w w':World} {x:MD} (h:x.ok w) (hb:Below w.heap.size w w'):x.ok w':=⟨h.ps.later hb,h.ls.later hb,h.co.later hb,h.cl.later hb⟩
structure Im (w:World) (g:Img):Prop where
 ts:Es tdE w (.slice g.ta g.ts.length g.tc) g.ts
 tok:∀ x∈g.ts,x.ok w
 fs:Es fdE w (.slice g.fa g.fs.length g.fc) g.fs
 ms:Es mdE w (.slice g.ma g.ms.length g.mc) g.ms
 mok:∀ x∈g.ms,x.ok w
def imV (g:Img):Value:=.agg #[.slice g.ta g.ts.length g.tc,.slice g.fa g.fs.length g.fc,.slice g.ma g.ms.length g.mc,.int .i64 g.en]
theorem Im.later {w w':World} {g:Img} (h:Im w g) (hb:Below w.heap.size w w'):Im w' g:=
 ⟨h.ts.later hb,λx hx=>(h.tok x hx).later hb,h.fs.later hb,h.ms.later hb,λx hx=>(h.mok x hx).later hb⟩
structure Img.nmOk (g:Img):Prop where
 ts:∀ x∈g.ts,x.nm.size<=maxLen
 fs:∀ x∈g.fs,x.nm.size<=maxLen
 ms:∀ x∈g.ms,x.nm.size<=maxLen
theorem Es.toTs {w:World} {v:Value} {l:List Ty} (h:Es tyE w v l):Ts w v l:=by
 by_cases hne:l=[]
 ·subst hne;obtain⟨a,c,rfl,h1,h2⟩:=h.shape;exact⟨a,c,rfl,h1,h2,λh=>absurd rfl h⟩
 ·obtain⟨b,off,cap,rfl,h1,h2,hb,hc⟩:=h.parts hne;exact⟨_,cap,rfl,h1,h2,λ_=>⟨b,off,rfl,hb,λi hi=>(hc i hi).cells_Y⟩⟩
theorem Ts.toEs {w:World} {v:Value} {l:List Ty} (h:Ts w v l):Es tyE w v l:=by
 obtain⟨a,cap,rfl,h1,h2,h3⟩:=h;by_cases hne:l=[]
 ·subst hne;exact⟨a,cap,rfl,h1,h2,λh=>absurd rfl h⟩
 ·obtain⟨b,off,rfl,hb,hc⟩:=h3 hne;refine Es.of_parts h1 h2 hb λi hi j u hj=>?_
  obtain⟨c0,c1,c2,c3⟩:=hc i hi;have hj4:j<4:=(List.getElem?_eq_some_iff.1 hj).1
  match j,hj4 with
  | 0,_=>simpa using (Option.some.inj hj) ▸ c0
  | 1,_=>simpa using (Option.some.inj hj) ▸ c1
  | 2,_=>simpa using (Option.some.inj hj) ▸ c2
  | 3,_=>simpa using (Option.some.inj hj) ▸ c3
theorem zn9 (l:List Int):ecL zch l=zc4 l:=by
 induction l with
 | nil=>rfl
 | cons x r ih =>
  have h:ecL zch (x :: r)=zvO x ++ ecL zch r:=by simp[ecL,zch]
  rw[h,ih];simp[zc4,zvO]
theorem Es.toIs {w:World} {v:Value} {l:List Int} (h:Es zch w v l):Is w v l:=by
 obtain⟨a,cap,rfl,h1,h2,h3⟩:=h;refine⟨a,cap,by rw[zae],by rw[zae];exact h1,h2,λhne=>?_⟩
 obtain⟨b,off,rfl,hb,hc⟩:=h3 (by intro e;subst e;exact hne rfl)
 refine⟨b,off,rfl,hb,λi hi=>hc i _ ?_⟩
 rw[zn9];exact List.getElem?_eq_getElem hi
theorem Is.toEs {w:World} {v:Value} {l:List Int} (h:Is w v l):Es zch w v l:=by
 obtain⟨a,cap,rfl,h1,h2,h3⟩:=h;rw[zae]at h1;refine⟨a,cap,by rw[zae],h1,h2,λhne=>?_⟩
 obtain⟨b,off,rfl,hb,hc⟩:=h3 (by intro e;apply hne;simpa[zc4]using e)
 refine⟨b,off,rfl,hb,λj u hj=>?_⟩
 rw[zn9]at hj;obtain⟨hlt,he⟩:=List.getElem?_eq_some_iff.1 hj;rw[hc j hlt,he]
theorem zfP {w:World} {ba oa ca bb ob cb:Nat} {ts:List Ty} (hl:ts.length<=maxLen)
 (ha:∀ i (h:i<ts.length),w.cell? ⟨ba,oa+i * 4,none⟩=some (.int .i64 ts[i].1)/\w.cell? ⟨ba,oa+i * 4+1,none⟩=some (.int .i64 ts[i].2.1)/\w.cell? ⟨ba,oa+i * 4+2,none⟩=some (.int .i64 ts[i].2.2.1)/\w.cell? ⟨ba,oa+i * 4+3,none⟩=some (.bool ts[i].2.2.2))
 (hb:∀ i (h:i<ts.length),w.cell? ⟨bb,ob+i * 4,none⟩=some (.int .i64 ts[i].1)/\w.cell? ⟨bb,ob+i * 4+1,none⟩=some (.int .i64 ts[i].2.1)/\w.cell? ⟨bb,ob+i * 4+2,none⟩=some (.int .i64 ts[i].2.2.1)/\w.cell? ⟨bb,ob+i * 4+3,none⟩=some (.bool ts[i].2.2.2)) :
 Calls Tryz.prog 55 #[.slice (some ⟨ba,oa,none⟩) ts.length ca,.slice (some ⟨bb,ob,none⟩) ts.length cb] w λe w'=>e=.returned (.bool true)/\∃ n,w'=w.drewN n:=by
 unfold maxLen at hl;have HA:Hid (∀ i (h:i<ts.length),w.cell? ⟨ba,oa+i * 4,none⟩=some (.int .i64 ts[i].1)/\w.cell? ⟨ba,oa+i * 4+1,none⟩=some (.int .i64 ts[i].2.1)/\w.cell? ⟨ba,oa+i * 4+2,none⟩=some (.int .i64 ts[i].2.2.1)/\w.cell? ⟨ba,oa+i * 4+3,none⟩=some (.bool ts[i].2.2.2)):=ha;have HB:Hid (∀ i (h:i<ts.length),w.cell? ⟨bb,ob+i * 4,none⟩=some (.int .i64 ts[i].1)/\w.cell? ⟨bb,ob+i * 4+1,none⟩=some (.int .i64 ts[i].2.1)/\w.cell? ⟨bb,ob+i * 4+2,none⟩=some (.int .i64 ts[i].2.2.1)/\w.cell? ⟨bb,ob+i * 4+3,none⟩=some (.bool ts[i].2.2.2)):=hb;clear ha hb;go_enter Tryz.func55,Tryz.ntmps55;go_wp2;go_loopw [5] (λz wr=>∃ q n:Nat,q<=ts.length/\z=.int .i64 (q:Int)/\wr=w.drewN n) (λz _=>ts.length - (intOf z).toNat)
 case atStart=>exact⟨0,0,Nat.zero_le _,rfl,rfl⟩
 case round =>
  obtain⟨q,n,hq,rfl,rfl⟩:=hrel;by_cases hql:q<ts.length
  ·obtain⟨c0,c1,c2,c3⟩:=HA.out q hql;obtain⟨d0,d1,d2,d3⟩:=HB.out q hql;generalize ts[q]=t at *;obtain⟨k,i,d,r⟩:=t;simp only at c0 c1 c2 c3 d0 d1 d2 d3;go_wp2;go_quiet (fail)
   go_wp2;go_roundw
   case rel=>exact⟨q+1,n+nq,by omega,by go_num,rfl⟩
   case measure=>simp[intOf];omega
  ·go_wp2;go_ret;exact⟨rfl,n,rfl⟩
theorem zfG (xa xb:Option Addr) (ca cb:Nat) (w:World) :
 Calls Tryz.prog 55 #[.slice xa 0 ca,.slice xb 0 cb] w λe w'=>e=.returned (.bool true)/\w'=w:=by
 go_enter Tryz.func55,Tryz.ntmps55;go_wp2;go_loopw [5] (λz wr=>z=.int .i64 0/\wr=w) (λz _=>0)
 case atStart=>exact⟨rfl,rfl⟩
 case round =>
  obtain⟨rfl,rfl⟩:=hrel;go_wp2;go_ret;exact⟨rfl,rfl⟩
theorem zdx {w:World} {va vb:Value} {ts:List Ty} (ha:Ts w va ts) (hb:Ts w vb ts) :
 Calls Tryz.prog 55 #[va,vb] w λe w'=>e=.returned (.bool true)/\∃ n,w'=w.drewN n:=by
 have hl:=ha.len;obtain⟨xa,ca,rfl,_,_,ga⟩:=ha;obtain⟨xb,cb,rfl,_,_,gb⟩:=hb;by_cases hne:ts=[]
 ·subst hne;refine (zfG xa xb ca cb w).mono ?_;rintro e w' ⟨rfl,rfl⟩;exact⟨rfl,0,rfl⟩
 ·obtain⟨ba,oa,rfl,_,ha⟩:=ga hne;obtain⟨bb,ob,rfl,_,hb⟩:=gb hne;exact zfP hl ha hb
end Go.Proofs.YtkedhjdipnhgdaaGreat
