import Derived.Test.YtkedhjdipnhgdaaGreatR05
import Derived.BigRegion
namespace Go.Proofs.YtkedhjdipnhgdaaGreat
set_option maxHeartbeats 16000000
set_option linter.all false
open RowKit
def leL (x n:Nat):List UInt8:=(List.range n).map λk=>UInt8.ofNat (x / 2 ^ (8 * k))
theorem zm8 (x n:Nat):(leL x n).length=n:=by simp[leL]
structure Strm where
 r:List UInt8
 n:List UInt8
 b:List UInt8
 c:List UInt8
def Strm.nil:Strm:=⟨[],[],[],[]⟩
def Strm.part (s:Strm):Nat->List UInt8
 | 0=>s.r
 | 1=>s.n
 | 2=>s.b
 | _=>s.c
def Strm.put (s:Strm) (k:Nat) (x:List UInt8):Strm:=
 match k with
 | 0=>⟨x,s.n,s.b,s.c⟩
 | 1=>⟨s.r,x,s.b,s.c⟩
 | 2=>⟨s.r,s.n,x,s.c⟩
 | _=>⟨s.r,s.n,s.b,x⟩
def zwv:Nat->List UInt8
 | 0=>[82,79,87,83]
 | 1=>[78,65,77,69]
 | 2=>[66,76,79,66]
 | _=>[67,79,68,69]
theorem zkm (k:Nat):(zwv k).length=4:=by
 match k with
 | 0=>rfl
 | 1=>rfl
 | 2=>rfl
 | _+3=>rfl
def zxo:List UInt8:=[67,71,82,68]
def zuG (bs:List UInt8) (at_ n:Nat):Nat:=leN (seg bs at_ n)
def zoc (i:Nat):Nat:=8+12 * i
def eAt (bs:List UInt8) (i:Nat):Nat:=zuG bs (zoc i) 4
def zvM (bs:List UInt8) (i:Nat):Nat:=zuG bs (zoc i+4) 4
def zxU (bs:List UInt8) (i:Nat):List UInt8:=seg bs (zoc i+8) 4
structure SSt where
 s:Strm
 met:List Nat
 ivs:List (Nat × Nat)
def zxt (met:List Nat) (t:List UInt8):Option Nat:=[0,1,2,3].find? λj=>decide (zwv j=t)&&!met.contains j
def zus (ivs:List (Nat × Nat)) (at_ n:Nat):Bool:=ivs.any λp=>decide (max p.1 at_<min (p.1+p.2) (at_+n))
def zxN (bs:List UInt8) (i:Nat) (st:SSt):Nat ⊕ SSt:=
 match zxt st.met (zxU bs i) with
 | none=>.inl 2
 | some k=>if eAt bs i<56∨eAt bs i % 4≠0 then .inl 3 else if bs.length<eAt bs i+zvM bs i then .inl 1 else if zus st.ivs (eAt bs i) (zvM bs i)=true then .inl 2
   else .inr ⟨st.s.put k (seg bs (eAt bs i) (zvM bs i)),st.met ++ [k],st.ivs ++ [(eAt bs i,zvM bs i)]⟩
/-! ### joined -/
def up4 (x:Nat):Nat:=(x+3) / 4 * 4
def plc (s:Strm):Nat->Nat
 | 0=>56
 | k+1=>up4 (plc s k+(s.part k).length)
def pad (l:List UInt8):List UInt8:=l ++ List.replicate (up4 l.length - l.length) 0
def zcm (s:Strm):Nat->List UInt8
 | 0=>[]
 | k+1=>pad (zcm s k) ++ s.part k
def zeR (s:Strm):Nat->List UInt8
 | 0=>zxo ++ [1,0,4,0]
 | k+1=>zeR s k ++ (leL (plc s k) 4 ++ (leL (s.part k).length 4 ++ zwv k))
def zsq (s:Strm):List UInt8:=zeR s 4 ++ zcm s 4
theorem zrG (x:Nat):x<=up4 x/\up4 x<=x+3/\up4 x % 4=0:=by unfold up4;omega
theorem zf4 (l:List UInt8):(pad l).length=up4 l.length:=by have:=zrG l.length;simp[pad];omega
theorem zsv (s:Strm) (k:Nat):plc s k % 4=0:=by
 cases k with
 | zero=>simp[plc]
 | succ k=>exact (zrG _).2.2
theorem zfg (s:Strm):∀ k,56+(pad (zcm s k)).length=plc s k
 | 0=>by simp[zcm,pad,plc,up4]
 | k+1=>by
  have ih:=zfg s k;have hm:=zsv s k;rw[zf4];simp only[zcm,List.length_append,plc];rw[zf4]at ih ⊢;unfold up4 at *;omega
theorem ze4 (s:Strm):∀ k,(zeR s k).length=8+12 * k
 | 0=>rfl
 | k+1=>by
  have ih:=ze4 s k;simp only[zeR,List.length_append,zm8,zkm,ih];omega
/-! ### pieces of lists -/
structure Headed (s:Strm) (bs:List UInt8):Prop where
 hd:bs.take 56=zeR s 4
 small:∀ k,k<4->plc s k<4294967296/\(s.part k).length<4294967296
theorem Headed.split {s:Strm} {bs:List UInt8} (h:Headed s bs):∃ c,bs=zeR s 4 ++ c:=⟨bs.drop 56,by rw[<- h.hd,List.take_append_drop]⟩
/-! ### what is joined -/
theorem zhA (s:Strm):∀ m k,k<m->∃ a c,zcm s m=a ++ (s.part k ++ c)/\56+a.length=plc s k
 | 0,k,h=>by omega
 | m+1,k,h=>by
  by_cases e:k=m
  ·subst e;exact⟨pad (zcm s k),[],by simp[zcm],zfg s k⟩
  ·obtain⟨a,c,h1,h2⟩:=zhA s m k (by omega)
   exact⟨a,c ++ (List.replicate (up4 (zcm s m).length - (zcm s m).length) 0 ++ s.part m),by simp only[zcm,pad];rw[h1];simp,h2⟩
theorem zor (s:Strm) (k:Nat) (h:k<4):∃ a c,zsq s=a ++ (s.part k ++ c)/\a.length=plc s k:=by
 obtain⟨a,c,h1,h2⟩:=zhA s 4 k h;exact⟨zeR s 4 ++ a,c,by unfold zsq;rw[h1];simp,by simp[ze4];omega⟩
structure Room (s:Strm):Prop where
 le:(zsq s).length<=65536
theorem Room.small {s:Strm} (h:Room s):∀ k,k<4->plc s k<4294967296/\(s.part k).length<4294967296:=by
 intro k hk;obtain⟨a,c,h1,h2⟩:=zor s k hk;have:=h.le;rw[h1]at this;simp at this;omega
/-! ### read -/
structure Tabs where
 zxN:Int
 rows:List (List (List Int))
def Tabs.nil:Tabs:=⟨0,[]⟩
/-! ### written -/
/-! ### there and back -/
def zqX (table row:Int):Int:=if table = -1 then 0 else if table≠0/\table≠4 then 0 else if row<1∨16383<row then 0 else row * 4+(if table=4 then 2 else 0)
def zpP (table row:Int):Int:=if table = -1 then 0 else if table≠0/\table≠4 then 17 else if row<1∨16383<row then 3 else 0
def zvD (x:Int):Int:=if x=0 then -1 else if x<4∨65535<x∨x % 2=1 then 0 else if x % 4=2 then 4 else 0
def zrv (x:Int):Int:=if x=0 then 0 else if x<4∨65535<x∨x % 2=1 then 0 else x / 4
def ztL (x:Int):Int:=if x=0 then 0 else if x<4∨65535<x∨x % 2=1 then 5 else 0
theorem zl4 (table row:Int) (w:World) :
 Calls Tryz.prog 229 #[.int .i64 table,.int .i64 row] w λe w'=>e=.returned (.tuple #[.int .i64 (zqX table row),.int .i64 (zpP table row)])/\w'=w:=by
 go_enter Tryz.func229,Tryz.ntmps229;go_wp2
 all_goals (go_ret2;exact⟨zgv (by (try simp only[beq_iff_eq,beq_eq_false_iff_ne,ne_eq,bne_iff_ne,bne_eq_false_iff_eq]at *);unfold zqX;(repeat' split) <;> omega) (by (try simp only[beq_iff_eq,beq_eq_false_iff_ne,ne_eq,bne_iff_ne,bne_eq_false_iff_eq]at *);unfold zpP;(repeat' split) <;> omega),rfl⟩)
def zcf (k:Int):UInt8:=if k=1 then 1 else if k=2 then 8 else if k=3 then 10 else if k=4 then 28 else if k=5 then 18 else if k=6 then 17 else if k=7 then 19 else 0
def zfp (k i:Int):List UInt8:=if k=5∨k=6 then pkL (4 * (i.toNat+1)) else if k=7 then pkL i.toNat else []
def zgA (r:Bool):List UInt8:=if r then [16] else []
def zjw (k i d:Int) (r:Bool):List UInt8:=zgA r ++ (List.replicate d.toNat 29 ++ (zcf k :: zfp k i))
def zqy (t:Ty):List UInt8:=zjw t.1 t.2.1 t.2.2.1 t.2.2.2
def zrP (e:Nat):Ty × Nat × Nat:=((0,0,0,false),0,e)
def zxT (bs:List UInt8) (r:Bool) (j c a:Nat):Ty × Nat × Nat:=
 if (unp bs a).2.2≠0 then zrP (unp bs a).2.2
 else if c=19 then (if 7<(unp bs a).1 then zrP 5 else ((7,((unp bs a).1:Int),(j:Int),r),a+(unp bs a).2.1,0))
 else if ztL ((unp bs a).1:Int)≠0∨zvD ((unp bs a).1:Int)≠0∨32<zrv ((unp bs a).1:Int) then zrP 5
 else ((if c=17 then 6 else 5,zrv ((unp bs a).1:Int) - 1,(j:Int),r),a+(unp bs a).2.1,0)
def zuY (bs:List UInt8) (r:Bool) (j c a:Nat):Ty × Nat × Nat:=
 if c=1 then (if r=true∨0<j then zrP 2 else ((1,0,0,false),a,0))
 else if c=8 then ((2,0,(j:Int),r),a,0)
 else if c=10 then ((3,0,(j:Int),r),a,0)
 else if c=28 then ((4,0,(j:Int),r),a,0)
 else if c=17∨c=18∨c=19 then zxT bs r j c a
 else zrP 2
def getD (bs:List UInt8) (r:Bool):Nat->Nat->Ty × Nat × Nat
 | 0,a=>if h:a<bs.length then (if bs[a].toNat=29 then zrP 6 else zuY bs r 3 bs[a].toNat (a+1)) else zrP 1
 | n+1,a=>if h:a<bs.length then (if bs[a].toNat=29 then getD bs r n (a+1) else zuY bs r (2 - n) bs[a].toNat (a+1)) else zrP 1
theorem zc3 {k i d:Int} {r:Bool} (h:zaB k i d r=true):0<=d/\d<=3/\0<=i/\(k=1/\d=0/\r=false/\i=0∨(k=2∨k=3∨k=4)/\i=0∨(k=5∨k=6)/\i<32∨k=7/\i<=7):=by
 unfold zaB at h;exact of_decide_eq_true h
theorem zeF (k:Int) (w:World) :
 Calls Tryz.prog 228 #[.int .i64 k] w λe w'=>e=.returned (.int .u8 ((zcf k).toNat:Int))/\w'=w:=by
 go_enter Tryz.func228,Tryz.ntmps228;go_wp2
 all_goals go_ret
 all_goals refine⟨zak ?_,rfl⟩
 all_goals simp only[beq_iff_eq,beq_eq_false_iff_ne,ne_eq]at *
 all_goals (simp[zcf, *])
theorem zeL {P:Program} {f:FuncId} {fn:Func} {c:Code} (hf:P.funcs[f]? =some fn) (hname:(fn.name == "runtime.NumGoroutine")=false) (hb:fn.body=some c) (args:Array Value) (w:World) :
 (callFunc f args).run P w=.ok (.enter f args) w:=by
 have h1:¬ fn.name = "runtime.NumGoroutine" := by simpa using hname
 simp[callFunc,hf,h1,hb]
structure Rule (f:FuncId) (p:Nat):Prop where
 enter:∀ args w,(callFunc f args).run Tryz.prog w=.ok (.enter f args) w
 may:∀ k i d r w,Calls Tryz.prog f #[.agg #[.int .i64 k,.int .i64 i,.int .i64 d,.bool r]] w λe w'=>e=.returned (.bool (zbO p k i d r))/\Below w.heap.size w w'
 plain:∀ k i d r,zbO p k i d r=true->zaB k i d r=true
theorem zf8:Rule 208 1:=⟨zeL Tryz.func208 (by kernel_rfl) rfl,λk i d r w=>zjJ k i d r w,λk i d r h=>by simp[zbO]at h;exact h.1.1⟩
theorem zgx:Rule 212 2:=⟨zeL Tryz.func212 (by kernel_rfl) rfl,λk i d r w=>zcX k i d r w,λk i d r h=>by simp[zbO]at h;exact h.1⟩
theorem zc8:Rule 210 3:=⟨zeL Tryz.func210 (by kernel_rfl) rfl,λk i d r w=>ziR k i d r w,λk i d r h=>by simp[zbO]at h;exact h.1⟩
def TyAt (w:World) (g:Nat) (k i d:Int) (r:Bool):Prop:=w.heap[g]? =some (.cells #[.int .i64 k,.int .i64 i,.int .i64 d,.bool r] 47 (0,0))
theorem TyAt.cells {w:World} {g:Nat} {k i d:Int} {r:Bool} (h:TyAt w g k i d r) :
 w.cell? ⟨g,0,none⟩=some (.int .i64 k)/\w.cell? ⟨g,1,none⟩=some (.int .i64 i)/\w.cell? ⟨g,2,none⟩=some (.int .i64 d)/\w.cell? ⟨g,3,none⟩=some (.bool r):=by
 unfold TyAt at h;simp[World.cell?,h]
theorem TyAt.melt {w:World} {g:Nat} {k i d:Int} {r:Bool} (h:TyAt w g k i d r):∀ o,w.frozen? ⟨g,o,none⟩=false:=by
 unfold TyAt at h;intro o;simp[World.frozen?,h]
theorem TyAt.lt {w:World} {g:Nat} {k i d:Int} {r:Bool} (h:TyAt w g k i d r):g<w.heap.size:=(Array.getElem?_eq_some_iff.1 h).1
theorem TyAt.below {w w':World} {g B:Nat} {k i d:Int} {r:Bool} (h:TyAt w g k i d r) (hb:Below B w w') (hg:g<B):TyAt w' g k i d r:=by
 unfold TyAt at h ⊢;rw[hb.block g hg];exact h
theorem TyAt.later {w w':World} {g:Nat} {k i d:Int} {r:Bool} (h:TyAt w g k i d r) (hb:Below w.heap.size w w'):TyAt w' g k i d r:=h.below hb h.lt
theorem TyAt.only {w w':World} {g rb:Nat} {k i d:Int} {r:Bool} (h:TyAt w g k i d r) (ho:Only rb w w') (hg:g≠rb):TyAt w' g k i d r:=by
 have:=h.lt;unfold TyAt at h ⊢;rw[ho.block g this hg];exact h
theorem TyAt.made (w:World) (k i d:Int) (r:Bool):TyAt (w.alloc (.cells #[.int .i64 k,.int .i64 i,.int .i64 d,.bool r] 47)) w.heap.size k i d r:=by
 unfold TyAt;have:=heap_alloc_new w (.cells #[.int .i64 k,.int .i64 i,.int .i64 d,.bool r] 47);simpa using this
theorem TyAt.other {w:World} {g g' o:Nat} {k i d:Int} {r:Bool} (h:TyAt w g k i d r) (hg:g≠g') (u:Value):TyAt (w.setCell ⟨g',o,none⟩ u) g k i d r:=by
 unfold TyAt at h ⊢;rw[Below.heap_setCell _ _ _ _ hg];exact h
theorem TyAt.set0 {w:World} {g:Nat} {k i d:Int} {r:Bool} (h:TyAt w g k i d r) (x:Int):TyAt (w.setCell ⟨g,0,none⟩ (.int .i64 x)) g x i d r:=by
 unfold TyAt at h ⊢;rw[setCell_eq_setRow w g 0 _ _ _ _ h,setRow_heap w g _ _ _ _ h];simp
theorem TyAt.set1 {w:World} {g:Nat} {k i d:Int} {r:Bool} (h:TyAt w g k i d r) (x:Int):TyAt (w.setCell ⟨g,1,none⟩ (.int .i64 x)) g k x d r:=by
 unfold TyAt at h ⊢;rw[setCell_eq_setRow w g 1 _ _ _ _ h,setRow_heap w g _ _ _ _ h];simp
theorem TyAt.set2 {w:World} {g:Nat} {k i d:Int} {r:Bool} (h:TyAt w g k i d r) (x:Int):TyAt (w.setCell ⟨g,2,none⟩ (.int .i64 x)) g k i x r:=by
 unfold TyAt at h ⊢;rw[setCell_eq_setRow w g 2 _ _ _ _ h,setRow_heap w g _ _ _ _ h];simp
theorem TyAt.set3 {w:World} {g:Nat} {k i d:Int} {r:Bool} (h:TyAt w g k i d r) (x:Bool):TyAt (w.setCell ⟨g,3,none⟩ (.bool x)) g k i d x:=by
 unfold TyAt at h ⊢;rw[setCell_eq_setRow w g 3 _ _ _ _ h,setRow_heap w g _ _ _ _ h];simp
theorem TyAt.set4 {w:World} {g:Nat} {k i d:Int} {r:Bool} (h:TyAt w g k i d r) (k' i' d':Int) (r':Bool) :
 TyAt ((((w.setCell ⟨g,0,none⟩ (.int .i64 k')).setCell ⟨g,1,none⟩ (.int .i64 i')).setCell ⟨g,2,none⟩ (.int .i64 d')).setCell ⟨g,3,none⟩ (.bool r')) g k' i' d' r':=
 (((h.set0 k').set1 i').set2 d').set3 r'
theorem Only.setNew {rb:Nat} {a w:World} (h:Only rb a w) {g:Nat} (hg:a.heap.size<=g) (o:Nat) (u:Value):Only rb a (w.setCell ⟨g,o,none⟩ u):=
 ⟨h.os,h.tape,h.output,by have:=h.size;simp[World.setCell];exact this,λk hk hne=>by rw[Below.heap_setCell _ _ _ _ (show k≠g by omega)];exact h.block k hk hne⟩
theorem Only.set4 {rb:Nat} {a w:World} (h:Only rb a w) {g:Nat} (hg:a.heap.size<=g) (x0 x1 x2 x3:Value) :
 Only rb a ((((w.setCell ⟨g,0,none⟩ x0).setCell ⟨g,1,none⟩ x1).setCell ⟨g,2,none⟩ x2).setCell ⟨g,3,none⟩ x3):=
 (((h.setNew hg _ _).setNew hg _ _).setNew hg _ _).setNew hg _ _
theorem At.only {w w':World} {g rb:Nat} {C:Array Value} {t:TypeId} (h:At w g C t) (ho:Only rb w w') (hg:g≠rb):At w' g C t:=by
 have:=h.lt;unfold At at h ⊢;rw[ho.block g this hg];exact h
theorem At.ty {w:World} {g:Nat} {k i d:Int} {r:Bool} (h:At w g #[.int .i64 k,.int .i64 i,.int .i64 d,.bool r] 47):TyAt w g k i d r:=h
theorem TyAt.at {w:World} {g:Nat} {k i d:Int} {r:Bool} (h:TyAt w g k i d r):At w g #[.int .i64 k,.int .i64 i,.int .i64 d,.bool r] 47:=h
theorem At.grown {w w':World} {g base:Nat} {C:Array Value} {t:TypeId} {v:Value} {xs:List UInt8} (h:At w g C t) (ho:Own w base 5 v xs) (ht:t≠5) (hg:w.grownBy w' v.ownBlock):At w' g C t:=by
 have hl:=h.lt;have hne:some g≠v.ownBlock:=by
  intro e;obtain⟨C',hC⟩:=ho.v.typed g e.symm;unfold At at h;rw[h]at hC;simp only[Option.some.injEq,Obj.cells.injEq]at hC;exact ht hC.2.1
 unfold At at h ⊢;rw[hg.block g hl hne];exact h
def Keeps (w w':World):Prop:=∀ g C t,t≠5->At w g C t->At w' g C t
theorem Keeps.refl (w:World):Keeps w w:=λ_ _ _ _ h=>h
theorem Keeps.trans {a b c:World} (h:Keeps a b) (k:Keeps b c):Keeps a c:=λg C t ht ha=>k g C t ht (h g C t ht ha)
theorem Keeps.of_below {w w':World} (h:Below w.heap.size w w'):Keeps w w':=λ_ _ _ _ ha=>ha.later h
theorem Keeps.of_grown {w w':World} {base:Nat} {v:Value} {xs:List UInt8} (ho:Own w base 5 v xs) (hg:w.grownBy w' v.ownBlock):Keeps w w':=λ_ _ _ ht ha=>ha.grown ho ht hg
theorem Keeps.lit {w w2:World} {o:Obj} {base:Nat} {v:Value} {xs:List UInt8} (ho:Own w base 5 v xs) (hg:(w.alloc o).grownBy w2 v.ownBlock):Keeps w w2:=
 (Keeps.of_below ((Below.refl _ _).alloc (Nat.le_refl _) _)).trans (Keeps.of_grown (ho.later ((Below.refl _ _).alloc (Nat.le_refl _) _)) hg)
theorem zdB {v:Value} {bs:List UInt8} {w:World} {base:Nat} (hv:Own w base 5 v bs) (hb:bs.length<=281474976710600) (hbase:base<=w.heap.size) (n:Nat) (hn:n<=536870911) :
 Calls Tryz.prog 230 #[v,.int .i64 (n:Int)] w λe w'=>∃ v',e=.returned (.tuple #[v',.int .i64 0])/\Own w' base 5 v' (bs ++ pkL n)/\Below w.heap.size w w':=by
 have hpl:(pkL n).length<=4:=by
  have:=zdR n hn;unfold zhT at this
  repeat' split at this
  all_goals omega
 refine (zp6 hv.bs hb n hn).mono ?_;rintro e w' ⟨rfl,m,rfl⟩;refine⟨_,rfl, ?_,Below.drewN ((Below.refl _ _).alloc (Nat.le_refl _) _) m⟩;have h:=Own.lit w base 5 (bs ++ pkL n) _ _ hbase rfl rfl (by simp[maxLen];omega)
 rw[List.length_append]at h;exact h.later (Below.drewN (Below.refl _ _) m)
theorem zlE (n:Nat) (hn:n<32):zqX 0 ((n:Int)+1)=((4 * (n+1):Nat):Int)/\zpP 0 ((n:Int)+1)=0:=by
 unfold zqX zpP;rw[if_neg (by omega),if_neg (by omega),if_neg (by omega),if_neg (by omega),if_neg (by omega),if_neg (by omega)]
 omega
set_option maxRecDepth 100000 in
theorem zc9 {f:FuncId} {p:Nat} (hF:Rule f p) {w:World} {base:Nat} {v:Value} {xs:List UInt8} (hv:Own w base 5 v xs) (hbase:base<=w.heap.size) (hx:xs.length<=1000000) (k i d:Int) (r:Bool) (hm:zbO p k i d r=true) :
 Calls Tryz.prog 207 #[v,.agg #[.int .i64 k,.int .i64 i,.int .i64 d,.bool r],.func (.func f) #[] #[]] w λe w'=>∃ v',e=.returned (.tuple #[v',.int .i64 0])/\Own w' base 5 v' (xs ++ zjw k i d r)/\Below base w w'/\Keeps w w':=by
 obtain⟨hin,hmay,hpl⟩:=hF;have hp:=hpl k i d r hm;clear hpl;obtain⟨p1,p2,p3,p4⟩:=zc3 hp;obtain⟨m,rfl⟩:=Int.eq_ofNat_of_zero_le p1;obtain⟨n,rfl⟩:=Int.eq_ofNat_of_zero_le p3;have HP4:Hid (k=1/\(m:Int)=0/\r=false/\(n:Int)=0∨(k=2∨k=3∨k=4)/\(n:Int)=0∨(k=5∨k=6)/\(n:Int)<32∨k=7/\(n:Int)<=7):=p4;have HEnc:Hid (zjw k (n:Int) (m:Int) r=zgA r ++ (List.replicate m 29 ++ (zcf k :: zfp k (n:Int)))):=by show _=_;unfold zjw;rw[Int.toNat_natCast]
 clear hp p4;go_enter Tryz.func207,Tryz.ntmps207;go_wp2_with fail
 refine (hmay k n m r _).mono ?_;rintro e w1 ⟨rfl,hb1⟩;have hT1:=(At.made w #[.int .i64 k,.int .i64 (n:Int),.int .i64 (m:Int),.bool r] 47).later hb1;have hB1:=(zaA hb1).mono hbase;have hK1:Keeps w w1:=Keeps.of_below (zaA hb1);have hO1:=hv.later (zaA hb1);have hs1:base<=w1.heap.size:=Nat.le_trans hbase hB1.size;clear hb1 hv;have tc:=hT1.cell;obtain⟨zs,hzs⟩:∃ zs,zs=xs ++ zgA r:=⟨_,rfl⟩;have HZ:Hid (zs=xs ++ zgA r):=hzs;clear hzs;have HZL:Hid (zs.length<=xs.length+1):=by show _<=_;rw[HZ.out];unfold zgA;split <;> simp
 cases r with
 | true =>
  have HO1:Hid (Own w1 base 5 v xs):=hO1;clear hO1;go_wp2_with (at_builtin;go_must (refine zaT rfl _ _ _ rfl base 5 Tryz.underlying158 Tryz.infoU8 rfl rfl (HO1.out.later ((Below.refl _ _).alloc (Nat.le_refl _) _)) (zhK w1 [16] _ _ _ (by simp[u8s]) rfl (by simp[maxLen])) (by simp;omega) (by simp;omega) ?_))
  intro v0 w0 ho0 hg0;have hb0:Below base w1 w0:=((Below.refl _ _).alloc (by omega) _).grown hg0 (by simp;omega) (λk hk=>(HO1.out.block k hk).1)
  have hT0:=(hT1.next (.cells #[.int .u8 16] 5)).grown (HO1.out.later ((Below.refl _ _).alloc (Nat.le_refl _) _)) (by decide) hg0
  have hB0:=hB1.trans hb0;have hK0:=hK1.trans (Keeps.lit HO1.out hg0);have hO0:Own w0 base 5 v0 zs:=by rw[HZ.out];simpa[zgA]using ho0
  clear ho0 hg0 hb0 HO1 hT1 hB1 tc;have tc:=hT0.cell;go_wp2;go_loopw [0,21] (λu z wr=>∃ q:Nat,q<=m/\z=.int .i64 (q:Int)/\Own wr base 5 u (zs ++ List.replicate q 29)/\At wr w.heap.size #[.int .i64 k,.int .i64 (n:Int),.int .i64 (m:Int),.bool true] 47/\Below base w wr/\Keeps w wr) (λ_ z _=>m - (intOf z).toNat)
  case atStart=>exact⟨0,Nat.zero_le _,rfl,by simpa using hO0,hT0,hB0,hK0⟩
  case round =>
   obtain⟨q,hq,rfl,ho,hT,hB,hK⟩:=hrel;clear hO0 hT0 hB0 hs1 tc;have hsw:=hB.size;have tc:=hT.cell;have HO:Hid (Own wr base 5 u0 (zs ++ List.replicate q 29)):=ho;clear ho;by_cases hqm:q<m
   ·go_wp2_with (at_builtin;go_must (refine zaT rfl _ _ _ rfl base 5 Tryz.underlying158 Tryz.infoU8 rfl rfl (HO.out.later ((Below.refl _ _).alloc (Nat.le_refl _) _)) (zhK wr [29] _ _ _ (by simp[u8s]) rfl (by simp[maxLen])) (by have:=HZL.out;simp;omega) (by simp;omega) ?_;intro v2 w2 ho2 hg2))
    have hb2:Below base wr w2:=((Below.refl _ _).alloc (by omega) _).grown hg2 (by simp;omega) (λk hk=>(HO.out.block k hk).1)
    have hT2:=(hT.next (.cells #[.int .u8 29] 5)).grown (HO.out.later ((Below.refl _ _).alloc (Nat.le_refl _) _)) (by decide) hg2
    go_roundw
    case rel=>exact⟨q+1,by omega,by go_num,by rw[List.replicate_succ',<- List.append_assoc];exact ho2,hT2,hB.trans hb2,hK.trans (Keeps.lit HO.out hg2)⟩
    case measure=>simp[intOf];omega
   ·have hqq:q=m:=by omega
    subst hqq;go_wp2_with fail
    refine (zeF k _).mono ?_;rintro e wz ⟨rfl,hz⟩;subst wz;go_wp2_with (at_builtin;go_must (refine zaT rfl _ _ _ rfl base 5 Tryz.underlying158 Tryz.infoU8 rfl rfl (HO.out.later ((Below.refl _ _).alloc (Nat.le_refl _) _)) (zhK wr [zcf k] _ _ _ (by simp[u8s]) rfl (by simp[maxLen])) (by have:=HZL.out;simp;omega) (by simp;omega) ?_))
    intro v2 w2 ho2 hg2;have hb2:Below base wr w2:=((Below.refl _ _).alloc (by omega) _).grown hg2 (by simp;omega) (λk hk=>(HO.out.block k hk).1)
    have hT2:=(hT.next (.cells #[.int .u8 ((zcf k).toNat:Int)] 5)).grown (HO.out.later ((Below.refl _ _).alloc (Nat.le_refl _) _)) (by decide) hg2
    have hB2:=hB.trans hb2;have hK2:=hK.trans (Keeps.lit HO.out hg2);have hs2:base<=w2.heap.size:=by have:=hb2.size;omega
    have HO2:Hid (Own w2 base 5 v2 (zs ++ List.replicate q 29 ++ [zcf k])):=by show Own _ _ _ _ _;rw[List.append_assoc];exact ho2
    have HL2:Hid ((zs ++ List.replicate q 29 ++ [zcf k]).length<=281474976710600):=by show _<=_;have:=HZL.out;simp;omega
    have HE2:Hid (xs ++ zjw k (n:Int) (q:Int) true=zs ++ List.replicate q 29 ++ [zcf k] ++ zfp k (n:Int)):=by show _=_;rw[HEnc.out,HZ.out];simp
    clear ho2 hg2 hb2 hT hB tc hsw HO HEnc;have tc:=hT2.cell;clear hT2
    rcases HP4.out with ⟨rfl,g1,g2,g3⟩ | ⟨g1,g2⟩ | ⟨g1,g2⟩ | ⟨rfl,g2⟩
    ·have HN:Hid (zfp 1 (n:Int)=[]):=by show _=_;simp[zfp]
     clear HP4 g1 g2 g3;go_wp2;go_ret2
     exact⟨_,rfl,by rw[HE2.out,HN.out,List.append_nil];exact HO2.out,hB2,hK2⟩
    ·have HN:Hid (zfp k (n:Int)=[]):=by show _=_;unfold zfp;rw[if_neg (by omega),if_neg (by omega)]
     clear HP4 g2
     rcases g1 with rfl | rfl | rfl
     all_goals
      go_wp2;go_ret2
      exact⟨_,rfl,by rw[HE2.out,HN.out,List.append_nil];exact HO2.out,hB2,hK2⟩
    ·have HN:Hid (zfp k (n:Int)=pkL (4 * (n+1))):=by show _=_;unfold zfp;rw[if_pos g1];simp
     obtain⟨cr1,cr2⟩:=zlE n (by omega)
     have HCd:Hid (∀ w,Calls Tryz.prog 229 #[.int .i64 0,.int .i64 ((n:Int)+1)] w λe w'=>e=.returned (.tuple #[.int .i64 ((4 * (n+1):Nat):Int),.int .i64 0])/\w'=w):=by
      intro w;have:=zl4 0 ((n:Int)+1) w;rw[cr1,cr2]at this;exact this
     have hn32:(n:Int)<32:=g2;have HPk:Hid (Calls Tryz.prog 230 #[v2,.int .i64 ((4 * (n+1):Nat):Int)] w2 λe w'=>∃ v',e=.returned (.tuple #[v',.int .i64 0])/\Own w' base 5 v' (zs ++ List.replicate q 29 ++ [zcf k] ++ pkL (4 * (n+1)))/\Below w2.heap.size w2 w'):=zdB HO2.out HL2.out hs2 (4 * (n+1)) (by omega)
     clear HP4 g2 cr1 cr2;obtain⟨x4,hx4⟩:∃ x4:Int,((4 * (n+1):Nat):Int)=x4:=⟨_,rfl⟩;rw[hx4]at HCd HPk;clear hx4
     rcases g1 with rfl | rfl
     all_goals
      go_wp2_with fail
      refine (HCd.out _).mono ?_;rintro e wz ⟨rfl,hz⟩;subst wz;go_wp2_with fail
      refine Calls.mono HPk.out ?_;rintro e w3 ⟨v3,rfl,ho3,hb3⟩;go_wp2;go_ret2
      exact⟨_,rfl,by rw[HE2.out,HN.out];exact ho3,hB2.trans (hb3.mono hs2),hK2.trans (Keeps.of_below hb3)⟩
    ·have HN:Hid (zfp 7 (n:Int)=pkL n):=by show _=_;simp[zfp]
     have HPk:Hid (Calls Tryz.prog 230 #[v2,.int .i64 (n:Int)] w2 λe w'=>∃ v',e=.returned (.tuple #[v',.int .i64 0])/\Own w' base 5 v' (zs ++ List.replicate q 29 ++ [zcf 7] ++ pkL n)/\Below w2.heap.size w2 w'):=zdB HO2.out HL2.out hs2 n (by omega)
     clear HP4 g2;go_wp2_with fail
     refine Calls.mono HPk.out ?_;rintro e w3 ⟨v3,rfl,ho3,hb3⟩;go_wp2;go_ret2
     exact⟨_,rfl,by rw[HE2.out,HN.out];exact ho3,hB2.trans (hb3.mono hs2),hK2.trans (Keeps.of_below hb3)⟩
 | false =>
  have hO1':Own w1 base 5 v zs:=by rw[HZ.out];simpa[zgA]using hO1
  clear hO1;go_wp2;go_loopw [0,21] (λu z wr=>∃ q:Nat,q<=m/\z=.int .i64 (q:Int)/\Own wr base 5 u (zs ++ List.replicate q 29)/\At wr w.heap.size #[.int .i64 k,.int .i64 (n:Int),.int .i64 (m:Int),.bool false] 47/\Below base w wr/\Keeps w wr) (λ_ z _=>m - (intOf z).toNat)
  case atStart=>exact⟨0,Nat.zero_le _,rfl,by simpa using hO1',hT1,hB1,hK1⟩
  case round =>
   obtain⟨q,hq,rfl,ho,hT,hB,hK⟩:=hrel;clear hO1' hT1 hB1 hs1 tc;have hsw:=hB.size;have tc:=hT.cell;have HO:Hid (Own wr base 5 u0 (zs ++ List.replicate q 29)):=ho;clear ho;by_cases hqm:q<m
   ·go_wp2_with (at_builtin;go_must (refine zaT rfl _ _ _ rfl base 5 Tryz.underlying158 Tryz.infoU8 rfl rfl (HO.out.later ((Below.refl _ _).alloc (Nat.le_refl _) _)) (zhK wr [29] _ _ _ (by simp[u8s]) rfl (by simp[maxLen])) (by have:=HZL.out;simp;omega) (by simp;omega) ?_;intro v2 w2 ho2 hg2))
    have hb2:Below base wr w2:=((Below.refl _ _).alloc (by omega) _).grown hg2 (by simp;omega) (λk hk=>(HO.out.block k hk).1)
    have hT2:=(hT.next (.cells #[.int .u8 29] 5)).grown (HO.out.later ((Below.refl _ _).alloc (Nat.le_refl _) _)) (by decide) hg2
    go_roundw
    case rel=>exact⟨q+1,by omega,by go_num,by rw[List.replicate_succ',<- List.append_assoc];exact ho2,hT2,hB.trans hb2,hK.trans (Keeps.lit HO.out hg2)⟩
    case measure=>simp[intOf];omega
   ·have hqq:q=m:=by omega
    subst hqq;go_wp2_with fail
    refine (zeF k _).mono ?_;rintro e wz ⟨rfl,hz⟩;subst wz;go_wp2_with (at_builtin;go_must (refine zaT rfl _ _ _ rfl base 5 Tryz.underlying158 Tryz.infoU8 rfl rfl (HO.out.later ((Below.refl _ _).alloc (Nat.le_refl _) _)) (zhK wr [zcf k] _ _ _ (by simp[u8s]) rfl (by simp[maxLen])) (by have:=HZL.out;simp;omega) (by simp;omega) ?_))
    intro v2 w2 ho2 hg2;have hb2:Below base wr w2:=((Below.refl _ _).alloc (by omega) _).grown hg2 (by simp;omega) (λk hk=>(HO.out.block k hk).1)
    have hT2:=(hT.next (.cells #[.int .u8 ((zcf k).toNat:Int)] 5)).grown (HO.out.later ((Below.refl _ _).alloc (Nat.le_refl _) _)) (by decide) hg2
    have hB2:=hB.trans hb2;have hK2:=hK.trans (Keeps.lit HO.out hg2);have hs2:base<=w2.heap.size:=by have:=hb2.size;omega
    have HO2:Hid (Own w2 base 5 v2 (zs ++ List.replicate q 29 ++ [zcf k])):=by show Own _ _ _ _ _;rw[List.append_assoc];exact ho2
    have HL2:Hid ((zs ++ List.replicate q 29 ++ [zcf k]).length<=281474976710600):=by show _<=_;have:=HZL.out;simp;omega
    have HE2:Hid (xs ++ zjw k (n:Int) (q:Int) false=zs ++ List.replicate q 29 ++ [zcf k] ++ zfp k (n:Int)):=by show _=_;rw[HEnc.out,HZ.out];simp
    clear ho2 hg2 hb2 hT hB tc hsw HO HEnc;have tc:=hT2.cell;clear hT2
    rcases HP4.out with ⟨rfl,g1,g2,g3⟩ | ⟨g1,g2⟩ | ⟨g1,g2⟩ | ⟨rfl,g2⟩
    ·have HN:Hid (zfp 1 (n:Int)=[]):=by show _=_;simp[zfp]
     clear HP4 g1 g2 g3;go_wp2;go_ret2
     exact⟨_,rfl,by rw[HE2.out,HN.out,List.append_nil];exact HO2.out,hB2,hK2⟩
    ·have HN:Hid (zfp k (n:Int)=[]):=by show _=_;unfold zfp;rw[if_neg (by omega),if_neg (by omega)]
     clear HP4 g2
     rcases g1 with rfl | rfl | rfl
     all_goals
      go_wp2;go_ret2
      exact⟨_,rfl,by rw[HE2.out,HN.out,List.append_nil];exact HO2.out,hB2,hK2⟩
    ·have HN:Hid (zfp k (n:Int)=pkL (4 * (n+1))):=by show _=_;unfold zfp;rw[if_pos g1];simp
     obtain⟨cr1,cr2⟩:=zlE n (by omega)
     have HCd:Hid (∀ w,Calls Tryz.prog 229 #[.int .i64 0,.int .i64 ((n:Int)+1)] w λe w'=>e=.returned (.tuple #[.int .i64 ((4 * (n+1):Nat):Int),.int .i64 0])/\w'=w):=by
      intro w;have:=zl4 0 ((n:Int)+1) w;rw[cr1,cr2]at this;exact this
     have hn32:(n:Int)<32:=g2;have HPk:Hid (Calls Tryz.prog 230 #[v2,.int .i64 ((4 * (n+1):Nat):Int)] w2 λe w'=>∃ v',e=.returned (.tuple #[v',.int .i64 0])/\Own w' base 5 v' (zs ++ List.replicate q 29 ++ [zcf k] ++ pkL (4 * (n+1)))/\Below w2.heap.size w2 w'):=zdB HO2.out HL2.out hs2 (4 * (n+1)) (by omega)
     clear HP4 g2 cr1 cr2;obtain⟨x4,hx4⟩:∃ x4:Int,((4 * (n+1):Nat):Int)=x4:=⟨_,rfl⟩;rw[hx4]at HCd HPk;clear hx4
     rcases g1 with rfl | rfl
     all_goals
      go_wp2_with fail
      refine (HCd.out _).mono ?_;rintro e wz ⟨rfl,hz⟩;subst wz;go_wp2_with fail
      refine Calls.mono HPk.out ?_;rintro e w3 ⟨v3,rfl,ho3,hb3⟩;go_wp2;go_ret2
      exact⟨_,rfl,by rw[HE2.out,HN.out];exact ho3,hB2.trans (hb3.mono hs2),hK2.trans (Keeps.of_below hb3)⟩
    ·have HN:Hid (zfp 7 (n:Int)=pkL n):=by show _=_;simp[zfp]
     have HPk:Hid (Calls Tryz.prog 230 #[v2,.int .i64 (n:Int)] w2 λe w'=>∃ v',e=.returned (.tuple #[v',.int .i64 0])/\Own w' base 5 v' (zs ++ List.replicate q 29 ++ [zcf 7] ++ pkL n)/\Below w2.heap.size w2 w'):=zdB HO2.out HL2.out hs2 n (by omega)
     clear HP4 g2;go_wp2_with fail
     refine Calls.mono HPk.out ?_;rintro e w3 ⟨v3,rfl,ho3,hb3⟩;go_wp2;go_ret2
     exact⟨_,rfl,by rw[HE2.out,HN.out];exact ho3,hB2.trans (hb3.mono hs2),hK2.trans (Keeps.of_below hb3)⟩
theorem zdX {f:FuncId} {p:Nat} (hF:Rule f p) (w:World) (v:Value) (k i d:Int) (r:Bool) (hm:zbO p k i d r=false) :
 Calls Tryz.prog 207 #[v,.agg #[.int .i64 k,.int .i64 i,.int .i64 d,.bool r],.func (.func f) #[] #[]] w λe w'=>e=.returned (.tuple #[.slice none 0 0,.int .i64 17])/\Below w.heap.size w w':=by
 obtain⟨hin,hmay,hpl⟩:=hF;clear hpl;go_enter Tryz.func207,Tryz.ntmps207;go_wp2_with fail
 refine (hmay k i d r _).mono ?_;rintro e w1 ⟨rfl,hb1⟩;have hB:=zaA hb1;clear hb1;go_wp2;go_ret2
 exact⟨rfl,hB⟩
theorem zi6 (k i d:Int) (r:Bool) (w:World) (hp:zbO 1 k i d r=true) :
 Calls Tryz.prog 186 #[.agg #[.int .i64 k,.int .i64 i,.int .i64 d,.bool r]] w λe w'=>∃ v,e=.returned (.tuple #[v,.int .i64 0])/\Own w' w.heap.size 5 v (6 :: zjw k i d r)/\Below w.heap.size w w':=by
 have HC:Hid (∀ (W:World) (g:Nat),g=W.heap.size->w.heap.size<=W.heap.size->Calls Tryz.prog 207 #[.slice (some ⟨g,0,none⟩) 1 1,.agg #[.int .i64 k,.int .i64 i,.int .i64 d,.bool r],.func (.func 208) #[] #[]] (W.alloc (.cells #[.int .u8 6] 5)) λe w'=>∃ v',e=.returned (.tuple #[v',.int .i64 0])/\Own w' w.heap.size 5 v' (6 :: zjw k i d r)/\Below w.heap.size (W.alloc (.cells #[.int .u8 6] 5)) w'):=
  λW g hg hW=>by subst hg;exact (zc9 zf8 (Own.lit W w.heap.size 5 [6] _ 1 hW (by simp[u8s]) rfl (by simp[maxLen])) (by simp;omega) (by simp) k i d r hp).mono λe w' ⟨v',h1,h2,h3,_⟩=>⟨v',h1,h2,h3⟩
 go_enter Tryz.func186,Tryz.ntmps186;go_wp2_with fail
 refine Calls.mono (HC.out _ _ (by simp) (by simp)) ?_
 rintro e w1 ⟨v1,rfl,h1,h2⟩;go_wp2;go_ret2
 exact⟨_,rfl,h1,(((Below.refl _ _).alloc (Nat.le_refl _) _).alloc (by simp) _).trans h2⟩
theorem zjL (k i d:Int) (r:Bool) (w:World) (hp:zbO 1 k i d r=false) :
 Calls Tryz.prog 186 #[.agg #[.int .i64 k,.int .i64 i,.int .i64 d,.bool r]] w λe w'=>e=.returned (.tuple #[.slice none 0 0,.int .i64 17])/\Below w.heap.size w w':=by
 have HC:Hid (∀ (W:World) (v:Value),Calls Tryz.prog 207 #[v,.agg #[.int .i64 k,.int .i64 i,.int .i64 d,.bool r],.func (.func 208) #[] #[]] W λe w'=>e=.returned (.tuple #[.slice none 0 0,.int .i64 17])/\Below W.heap.size W w'):=
  λW v=>zdX zf8 W v k i d r hp
 go_enter Tryz.func186,Tryz.ntmps186;go_wp2_with fail
 refine Calls.mono (HC.out _ _) ?_;rintro e w1 ⟨rfl,h2⟩;go_wp2;go_ret2
 exact⟨rfl,zaA (zaA h2)⟩
end Go.Proofs.YtkedhjdipnhgdaaGreat
