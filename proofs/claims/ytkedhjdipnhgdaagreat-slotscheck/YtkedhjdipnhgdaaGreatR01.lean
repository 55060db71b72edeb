import Derived.WalkKit
import Derived.WalkSpells
import Derived.WalkLawsBesides
import Derived.Laws.IdiomCopy
import Derived.Deep.Draws
import Derived.Test.YtkedhjdipnhgdaaGreatRows
import Derived.Deep.QuietTactic
import Derived.BigQuiet
import Derived.Deep.RegionHeld3
import Derived.ProofKit
import Derived.OpenShut
import Derived.ShutString
import Derived.ChangeOld
import Derived.SizedLaws
import Derived.Lib.SmallJoins
import Derived.Deep.Slices
import Derived.Deep.Strs
import Derived.Laws.BitsAllLaws
namespace Go.Proofs.YtkedhjdipnhgdaaGreat
set_option maxHeartbeats 16000000
set_option linter.all false
open RowKit
def u8s (bs:List UInt8):List Value:=bs.map λb=>.int .u8 (b.toNat:Int)
theorem zaz (bs:List UInt8):(u8s bs).length=bs.length:=by simp[u8s]
theorem zeM (bs:List UInt8) (i:Nat) (h:i<bs.length):(u8s bs)[i]? =some (.int .u8 (bs[i].toNat:Int)):=by
 simp[u8s,List.getElem?_eq_getElem h]
theorem zf0 (a b:List UInt8):u8s (a ++ b)=u8s a ++ u8s b:=by simp[u8s]
def Bs (w:World) (v:Value) (bs:List UInt8):Prop:=
 ∃ a cap,v=.slice a bs.length cap/\bs.length<=cap/\cap<=maxLen /\
  (bs≠[]->∃ b off,a=some ⟨b,off,none⟩/\b<w.heap.size/\∀ i (h:i<bs.length),w.cell? ⟨b,off+i,none⟩=some (.int .u8 (bs[i].toNat:Int)))
theorem Bs.nil (w:World):Bs w (.slice none 0 0) []:=⟨none,0,rfl,Nat.le_refl _,Nat.zero_le _,λh=>absurd rfl h⟩
theorem Bs.len {w:World} {v:Value} {bs:List UInt8} (h:Bs w v bs):bs.length<=maxLen:=by
 obtain⟨a,cap,_,h1,h2,_⟩:=h;omega
theorem Bs.of_block {w w':World} {v:Value} {bs:List UInt8} (h:Bs w v bs) (hs:w.heap.size<=w'.heap.size) (hk:∀ k,v.ownBlock=some k->k<w.heap.size->w'.heap[k]? =w.heap[k]?):Bs w' v bs:=by
 obtain⟨a,cap,rfl,h1,h2,h3⟩:=h;refine⟨a,cap,rfl,h1,h2,λhne=>?_⟩
 obtain⟨b,off,rfl,hb,hc⟩:=h3 hne;refine⟨b,off,rfl,by omega,λi hi=>?_⟩
 rw[<- hc i hi];exact World.cell?_of_block (hk b rfl hb)
theorem Bs.below {w w':World} {v:Value} {bs:List UInt8} {B:Nat} (h:Bs w v bs) (hb:Below B w w') (hk:∀ k,v.ownBlock=some k->k<B):Bs w' v bs:=
 h.of_block hb.size λk hv _=>hb.block k (hk k hv)
theorem Bs.later {w w':World} {v:Value} {bs:List UInt8} (h:Bs w v bs) (hb:Below w.heap.size w w'):Bs w' v bs:=
 h.of_block hb.size λk _ hk=>hb.block k hk
theorem Bs.drewN {w:World} {v:Value} {bs:List UInt8} (h:Bs w v bs) (n:Nat):Bs (w.drewN n) v bs:=
 h.of_block (Nat.le_refl _) λ_ _ _=>rfl
theorem Below.drewN {B:Nat} {a w:World} (h:Below B a w) (n:Nat):Below B a (w.drewN n):=⟨h.os,h.tape,h.output,h.size,h.block⟩
theorem Bs.made (w:World) (bs:List UInt8) (e:TypeId) (hm:bs.length<=maxLen):Bs (w.alloc (.cells (u8s bs).toArray e)) (.slice (some ⟨w.heap.size,0,none⟩) bs.length bs.length) bs:=by
 refine⟨_,_,rfl,Nat.le_refl _,hm,λ_=>⟨_,_,rfl,by simp,λi hi=>?_⟩⟩
 rw[Nat.zero_add,World.cell?_alloc_at _ _ _ _ rfl];simp[zeM bs i hi]
def zhT (n:Int):Int:=if n<0 then 0 else if 536870911<n then 0 else if n<=127 then 1 else if n<=16383 then 2 else 4
def zkQ (n:Int):Int:=if n=2 then 128 else if n=4 then 192 else 0
def zv3 (c:Int):Int:=if c<128 then 1 else if c<192 then 2 else if c<224 then 4 else 0
theorem zab {a b:Bool} (h:a=b):Ending.returned (.bool a)=.returned (.bool b):=by rw[h]
theorem zak {k:IntKind} {a b:Int} (h:a=b):Ending.returned (.int k a)=.returned (.int k b):=by rw[h]
theorem zgv {k l:IntKind} {a b c d:Int} (h:a=b) (g:c=d):Ending.returned (.tuple #[.int k a,.int l c])=.returned (.tuple #[.int k b,.int l d]):=by rw[h,g]
theorem zqq (n:Int) (w:World) :
 Calls Tryz.prog 248 #[.int .i64 n] w λe w'=>e=.returned (.int .i64 (zhT n))/\w'=w:=by
 go_enter Tryz.func248,Tryz.ntmps248;go_wp2
 all_goals (go_ret;exact⟨zak (by unfold zhT;omega),rfl⟩)
theorem zmI (n:Int) (w:World) :
 Calls Tryz.prog 250 #[.int .i64 n] w λe w'=>e=.returned (.int .u8 (zkQ n))/\w'=w:=by
 by_cases h2:n=2
 ·subst h2;go_enter Tryz.func250,Tryz.ntmps250;go_wp2;go_ret;exact⟨rfl,rfl⟩
 ·by_cases h4:n=4
  ·subst h4;go_enter Tryz.func250,Tryz.ntmps250;go_wp2;go_ret;exact⟨rfl,rfl⟩
  ·have e2:(n==2)=false:=by simp[h2]
   have e4:(n==4)=false:=by simp[h4]
   go_enter Tryz.func250,Tryz.ntmps250;go_wp2;go_ret;exact⟨zak (by simp[zkQ,h2,h4]),rfl⟩
def zaB (k i d:Int) (r:Bool):Bool:=
 decide (0<=d/\d<=3/\0<=i/\(k=1/\d=0/\r=false/\i=0∨(k=2∨k=3∨k=4)/\i=0∨(k=5∨k=6)/\i<32∨k=7/\i<=7))
def zbO (p:Nat) (k i d:Int) (r:Bool):Bool:=
 if p=1 then zaB k i d r&&(k != 1)&&!r else if p=2 then zaB k i d r&&(k != 1) else if p=3 then zaB k i d r&&!r else zaB k i d r
abbrev Ty:=Int × Int × Int × Bool
def tv (t:Ty):Value:=.agg #[.int .i64 t.1,.int .i64 t.2.1,.int .i64 t.2.2.1,.bool t.2.2.2]
def plainT (t:Ty):Bool:=zaB t.1 t.2.1 t.2.2.1 t.2.2.2
def za9 (p:Nat) (t:Ty):Bool:=zbO p t.1 t.2.1 t.2.2.1 t.2.2.2
theorem zcY (k i d:Int) (r:Bool) (w:World) :
 Calls Tryz.prog 118 #[.agg #[.int .i64 k,.int .i64 i,.int .i64 d,.bool r]] w λe w'=>e=.returned (.bool (zaB k i d r))/\Below w.heap.size w w':=by
 go_enter Tryz.func118,Tryz.ntmps118;go_wp2
 all_goals go_ret
 all_goals refine⟨zab ?_,(Below.refl _ _).alloc (Nat.le_refl _) _⟩
 all_goals try simp only[beq_iff_eq,beq_eq_false_iff_ne,ne_eq]at *
 all_goals (rw[Bool.eq_iff_iff];cases r <;> first | contradiction | (simp[zaB] <;> omega))
theorem zbR (k i d:Int) (r:Bool) (w:World) :
 Calls Tryz.prog 75 #[.agg #[.int .i64 k,.int .i64 i,.int .i64 d,.bool r]] w λe w'=>e=.returned (.bool (zaB k i d r))/\Below w.heap.size w w':=by
 go_enter Tryz.func75,Tryz.ntmps75;go_wp2
 all_goals go_ret
 all_goals refine⟨zab ?_,(Below.refl _ _).alloc (Nat.le_refl _) _⟩
 all_goals try simp only[beq_iff_eq,beq_eq_false_iff_ne,ne_eq]at *
 all_goals (rw[Bool.eq_iff_iff];cases r <;> first | contradiction | (simp[zaB] <;> omega))
theorem zkH {W w1:World} (hb:Below W.heap.size W w1):(∀ b o,b<W.heap.size->w1.cell? ⟨b,o,none⟩=W.cell? ⟨b,o,none⟩)/\(∀ b o,b<W.heap.size->w1.frozen? ⟨b,o,none⟩=W.frozen? ⟨b,o,none⟩):=
 ⟨λb o h=>hb.cell (p:=⟨b,o,none⟩) h,λb o h=>hb.frozen (p:=⟨b,o,none⟩) h⟩
theorem zaA {w w1:World} {o:Obj} (hb:Below (w.alloc o).heap.size (w.alloc o) w1):Below w.heap.size w w1:=
 ((Below.refl _ _).alloc (Nat.le_refl _) _).trans (hb.mono (by simp))
theorem zcX (k i d:Int) (r:Bool) (w:World) :
 Calls Tryz.prog 212 #[.agg #[.int .i64 k,.int .i64 i,.int .i64 d,.bool r]] w λe w'=>e=.returned (.bool (zbO 2 k i d r))/\Below w.heap.size w w':=by
 go_enter Tryz.func212,Tryz.ntmps212;go_wp2_with fail
 refine (zcY k i d r _).mono ?_;rintro e w1 ⟨rfl,hb⟩;have hB:=zaA hb;obtain⟨hc,hf⟩:=zkH hb;clear hb;go_wp2
 all_goals go_ret
 all_goals refine⟨zab ?_,hB⟩
 all_goals simp[zbO, *]
theorem zjJ (k i d:Int) (r:Bool) (w:World) :
 Calls Tryz.prog 208 #[.agg #[.int .i64 k,.int .i64 i,.int .i64 d,.bool r]] w λe w'=>e=.returned (.bool (zbO 1 k i d r))/\Below w.heap.size w w':=by
 go_enter Tryz.func208,Tryz.ntmps208;have h2:Hid (zbO 1 k i d r=(zbO 2 k i d r&&!r)):=by show _=_;simp[zbO]
 go_wp2_with fail
 refine (zcX k i d r _).mono ?_;rintro e w1 ⟨rfl,hb⟩;have hB:=zaA hb;obtain⟨hc,hf⟩:=zkH hb;clear hb;go_wp2
 all_goals go_ret
 all_goals refine⟨zab ?_,hB⟩
 all_goals (rw[h2.out];simp[*])
theorem ziR (k i d:Int) (r:Bool) (w:World) :
 Calls Tryz.prog 210 #[.agg #[.int .i64 k,.int .i64 i,.int .i64 d,.bool r]] w λe w'=>e=.returned (.bool (zbO 3 k i d r))/\Below w.heap.size w w':=by
 go_enter Tryz.func210,Tryz.ntmps210;go_wp2_with fail
 refine (zcY k i d r _).mono ?_;rintro e w1 ⟨rfl,hb⟩;have hB:=zaA hb;obtain⟨hc,hf⟩:=zkH hb;clear hb;go_wp2
 all_goals go_ret
 all_goals refine⟨zab ?_,hB⟩
 all_goals simp[zbO, *]
theorem ziI (k i d:Int) (r:Bool) (w:World) :
 Calls Tryz.prog 88 #[.agg #[.int .i64 k,.int .i64 i,.int .i64 d,.bool r]] w λe w'=>e=.returned (.bool (zaB k i d r))/\Below w.heap.size w w':=by
 go_enter Tryz.func88,Tryz.ntmps88;go_wp2_with fail
 refine (zcY k i d r _).mono ?_;rintro e w1 ⟨rfl,hb⟩;have hB:=zaA hb;clear hb;go_wp2;go_ret;exact⟨rfl,hB⟩
theorem zgg (k i d:Int) (r:Bool) (w:World) :
 Calls Tryz.prog 204 #[.agg #[.int .i64 k,.int .i64 i,.int .i64 d,.bool r],.int .i64 1] w λe w'=>e=.returned (.bool (zbO 1 k i d r))/\Below w.heap.size w w':=by
 go_enter Tryz.func204,Tryz.ntmps204;go_wp2_with fail
 refine (zbR k i d r _).mono ?_;rintro e w1 ⟨rfl,hb⟩;have hB:=zaA hb;obtain⟨hc,hf⟩:=zkH hb;clear hb;go_wp2
 all_goals go_ret
 all_goals refine⟨zab ?_,hB⟩
 all_goals first | (
   have hq:zaB k i d r=true:=by simpa using ‹(!zaB k i d r)=false›
   simp[zbO, *]) | (
     have hq:zaB k i d r=false:=by simpa using ‹(!zaB k i d r)=true›
     simp[zbO, *])
theorem zmy (k i d:Int) (r:Bool) (w:World) :
 Calls Tryz.prog 204 #[.agg #[.int .i64 k,.int .i64 i,.int .i64 d,.bool r],.int .i64 2] w λe w'=>e=.returned (.bool (zbO 2 k i d r))/\Below w.heap.size w w':=by
 go_enter Tryz.func204,Tryz.ntmps204;go_wp2_with fail
 refine (zbR k i d r _).mono ?_;rintro e w1 ⟨rfl,hb⟩;have hB:=zaA hb;obtain⟨hc,hf⟩:=zkH hb;clear hb;go_wp2
 all_goals go_ret
 all_goals refine⟨zab ?_,hB⟩
 all_goals first | (
   have hq:zaB k i d r=true:=by simpa using ‹(!zaB k i d r)=false›
   simp[zbO, *]) | (
     have hq:zaB k i d r=false:=by simpa using ‹(!zaB k i d r)=true›
     simp[zbO, *])
theorem zmQ (k i d:Int) (r:Bool) (w:World) :
 Calls Tryz.prog 204 #[.agg #[.int .i64 k,.int .i64 i,.int .i64 d,.bool r],.int .i64 3] w λe w'=>e=.returned (.bool (zbO 3 k i d r))/\Below w.heap.size w w':=by
 go_enter Tryz.func204,Tryz.ntmps204;go_wp2_with fail
 refine (zbR k i d r _).mono ?_;rintro e w1 ⟨rfl,hb⟩;have hB:=zaA hb;obtain⟨hc,hf⟩:=zkH hb;clear hb;go_wp2
 all_goals go_ret
 all_goals refine⟨zab ?_,hB⟩
 all_goals first | (
   have hq:zaB k i d r=true:=by simpa using ‹(!zaB k i d r)=false›
   simp[zbO, *]) | (
     have hq:zaB k i d r=false:=by simpa using ‹(!zaB k i d r)=true›
     simp[zbO, *])
def At (w:World) (g:Nat) (C:Array Value) (t:TypeId):Prop:=w.heap[g]? =some (.cells C t (0,0))
theorem At.cell {w:World} {g:Nat} {C:Array Value} {t:TypeId} (h:At w g C t):∀ o,w.cell? ⟨g,o,none⟩=C[o]?:=by
 unfold At at h;intro o;simp[World.cell?,h]
theorem At.melt {w:World} {g:Nat} {C:Array Value} {t:TypeId} (h:At w g C t):∀ o,w.frozen? ⟨g,o,none⟩=false:=by
 unfold At at h;intro o;simp[World.frozen?,h]
theorem At.lt {w:World} {g:Nat} {C:Array Value} {t:TypeId} (h:At w g C t):g<w.heap.size:=(Array.getElem?_eq_some_iff.1 h).1
theorem At.below {w w':World} {g B:Nat} {C:Array Value} {t:TypeId} (h:At w g C t) (hb:Below B w w') (hg:g<B):At w' g C t:=by
 unfold At at h ⊢;rw[hb.block g hg];exact h
theorem At.later {w w':World} {g:Nat} {C:Array Value} {t:TypeId} (h:At w g C t) (hb:Below w.heap.size w w'):At w' g C t:=h.below hb h.lt
theorem At.drewN {w:World} {g:Nat} {C:Array Value} {t:TypeId} (h:At w g C t) (n:Nat):At (w.drewN n) g C t:=h
theorem At.made (w:World) (C:Array Value) (t:TypeId):At (w.alloc (.cells C t)) w.heap.size C t:=by
 unfold At;have:=heap_alloc_new w (.cells C t);simpa using this
theorem At.next {w:World} {g:Nat} {C:Array Value} {t:TypeId} (h:At w g C t) (o:Obj):At (w.alloc o) g C t:=h.later ((Below.refl _ _).alloc (Nat.le_refl _) _)
theorem At.other {w:World} {g g' o:Nat} {C:Array Value} {t:TypeId} (h:At w g C t) (hg:g≠g') (u:Value):At (w.setCell ⟨g',o,none⟩ u) g C t:=by
 unfold At at h ⊢;rw[Below.heap_setCell _ _ _ _ hg];exact h
theorem At.set {w:World} {g:Nat} {C:Array Value} {t:TypeId} (h:At w g C t) (o:Nat) (u:Value):At (w.setCell ⟨g,o,none⟩ u) g (C.setIfInBounds o u) t:=by
 unfold At at h ⊢;rw[setCell_eq_setRow w g o _ _ _ _ h,setRow_heap w g _ _ _ _ h]
theorem At.set3 {w:World} {g:Nat} {c0 c1 c2:Value} {t:TypeId} (h:At w g #[c0,c1,c2] t) (x0 x1 x2:Value) :
 At (((w.setCell ⟨g,0,none⟩ x0).setCell ⟨g,1,none⟩ x1).setCell ⟨g,2,none⟩ x2) g #[x0,x1,x2] t:=by
 have:=((h.set 0 x0).set 1 x1).set 2 x2;simpa using this
theorem At.set4 {w:World} {g:Nat} {c0 c1 c2 c3:Value} {t:TypeId} (h:At w g #[c0,c1,c2,c3] t) (x0 x1 x2 x3:Value) :
 At ((((w.setCell ⟨g,0,none⟩ x0).setCell ⟨g,1,none⟩ x1).setCell ⟨g,2,none⟩ x2).setCell ⟨g,3,none⟩ x3) g #[x0,x1,x2,x3] t:=by
 have:=(((h.set 0 x0).set 1 x1).set 2 x2).set 3 x3;simpa using this
theorem At.set6 {w:World} {g:Nat} {c0 c1 c2 c3 c4 c5:Value} {t:TypeId} (h:At w g #[c0,c1,c2,c3,c4,c5] t) (x0 x1 x2 x3 x4 x5:Value) :
 At ((((((w.setCell ⟨g,0,none⟩ x0).setCell ⟨g,1,none⟩ x1).setCell ⟨g,2,none⟩ x2).setCell ⟨g,3,none⟩ x3).setCell ⟨g,4,none⟩ x4).setCell ⟨g,5,none⟩ x5) g #[x0,x1,x2,x3,x4,x5] t:=by
 have:=(((((h.set 0 x0).set 1 x1).set 2 x2).set 3 x3).set 4 x4).set 5 x5;simpa using this
theorem zbn {B g:Nat} {w w1:World} (h:Below B w w1) (hg:B<=g) (x0 x1 x2:Value):Below B w (((w1.setCell ⟨g,0,none⟩ x0).setCell ⟨g,1,none⟩ x1).setCell ⟨g,2,none⟩ x2):=
 ((h.setCell hg _).setCell hg _).setCell hg _
theorem zdN {B g:Nat} {w w1:World} (h:Below B w w1) (hg:B<=g) (x0 x1 x2 x3:Value):Below B w ((((w1.setCell ⟨g,0,none⟩ x0).setCell ⟨g,1,none⟩ x1).setCell ⟨g,2,none⟩ x2).setCell ⟨g,3,none⟩ x3):=
 (((h.setCell hg _).setCell hg _).setCell hg _).setCell hg _
theorem znj {B g:Nat} {w w1:World} (h:Below B w w1) (hg:B<=g) (x0 x1 x2 x3 x4 x5:Value):Below B w ((((((w1.setCell ⟨g,0,none⟩ x0).setCell ⟨g,1,none⟩ x1).setCell ⟨g,2,none⟩ x2).setCell ⟨g,3,none⟩ x3).setCell ⟨g,4,none⟩ x4).setCell ⟨g,5,none⟩ x5):=
 (((((h.setCell hg _).setCell hg _).setCell hg _).setCell hg _).setCell hg _).setCell hg _
def Own (w:World) (base:Nat) (e:TypeId) (v:Value) (xs:List UInt8):Prop:=w.ownsRow base e 1 v xs.length (u8s xs)
theorem Own.bs {w:World} {base:Nat} {e:TypeId} {v:Value} {xs:List UInt8} (h:Own w base e v xs):Bs w v xs:=by
 obtain⟨h1,h2⟩:=h
 rcases h2 with ⟨rfl,h0⟩ | ⟨g,cap,cur,rfl,hg,hh,hn,hm,hs,ht⟩
 ·have:xs=[]:=List.eq_nil_of_length_eq_zero h0;subst this;exact Bs.nil w
 ·refine⟨_,cap,rfl,hn,hm,λ_=>⟨g,0,rfl,(Array.getElem?_eq_some_iff.1 hh).1,λi hi=>?_⟩⟩
  have:(cur.toList.take (xs.length * 1))[i]? =some (.int .u8 (xs[i].toNat:Int)):=by rw[ht];exact zeM xs i hi
  simp only[World.cell?,hh];rw[List.getElem?_take,if_pos (by omega)]at this
  simpa using this
theorem Own.block {w:World} {base:Nat} {e:TypeId} {v:Value} {xs:List UInt8} (h:Own w base e v xs):∀ k,v.ownBlock=some k->base<=k/\k<w.heap.size:=World.ownsRow.lt h
theorem Own.later {w w':World} {base:Nat} {e:TypeId} {v:Value} {xs:List UInt8} (h:Own w base e v xs) (hb:Below w.heap.size w w'):Own w' base e v xs:=by
 obtain⟨h1,h2⟩:=h;refine⟨h1, ?_⟩
 rcases h2 with h2 | ⟨g,cap,cur,hv,hg,hh,r⟩
 ·exact Or.inl h2
 ·exact Or.inr ⟨g,cap,cur,hv,hg,by rw[hb.block g (Array.getElem?_eq_some_iff.1 hh).1];exact hh,r⟩
theorem Own.nil (w:World) (base:Nat) (e:TypeId):Own w base e (.slice none 0 0) []:=World.ownsRow_nil w base e 1
theorem Own.lit (w:World) (base:Nat) (e:TypeId) (xs:List UInt8) (C:Array Value) (n:Nat) (hb:base<=w.heap.size) (hC:C=(u8s xs).toArray) (hn:n=xs.length) (hm:xs.length<=maxLen) :
 Own (w.alloc (.cells C e)) base e (.slice (some ⟨w.heap.size,0,none⟩) n n) xs:=by
 subst hC hn;have:=World.ownsRow_lit (base:=base) (e:=e) (size:=1) w (u8s xs).toArray xs.length hb hm (by simp[zaz])
 unfold Own;simpa using this
theorem zgQ {P:Program} (w:World) (base:Nat) (t ty e:TypeId) (ht:P.underlying t=some (.slice e)) (hinfo:(P.info? e).map (λi=>(i.zero,i.size,i.bytes))=some (some (.int .u8 0),1,1))
 {v y:Value} {xs ys:List UInt8} (hv:Own w base e v xs) (hy:Bs w y ys) (hb:xs.length+ys.length<=140737488355328) (hbase:base<=w.heap.size) :
 ∃ v' w',(Builtin.append_ #[t,t] ty #[v,y]).run P w=.ok v' w'/\Own w' base e v' (xs ++ ys)/\w.grownBy w' v.ownBlock:=by
 obtain⟨i,hi,hz0,hz1,hz2⟩:=info_parts hinfo;obtain⟨a,cap,rfl,h1,h2,h3⟩:=hy
 cases a with
 | none =>
  have hys:ys=[]:=by
   by_cases h:ys=[]
   ·exact h
   ·obtain⟨b,off,hh,_⟩:=h3 h;simp at hh
  subst hys;refine⟨v,w, ?_,by simpa using hv,⟨rfl,rfl,rfl,Nat.le_refl _,λ_ _ _=>rfl⟩⟩
  rcases hv.2 with ⟨rfl,h0⟩ | ⟨g,cp,cur,rfl,_,_,hnc,_⟩
  ·simp[Builtin.append_,run_underlying ht,sizeOf,typeInfo,hi,Builtin.lenOf,Builtin.firstCells]
  ·simp[Builtin.append_,run_underlying ht,sizeOf,typeInfo,hi,Builtin.lenOf,Builtin.firstCells,hnc,storeCells]
 | some ad =>
  have hnews:∀ j u,(u8s ys)[j]? =some u->w.cell? (ad.add j)=some u:=by
   intro j u hj;have hjl:j<ys.length:=by
    rcases Nat.lt_or_ge j ys.length with h | h
    ·exact h
    ·rw[List.getElem?_eq_none (by simpa[u8s]using h)]at hj;simp at hj
   obtain⟨b,off,hh,_,hc⟩:=h3 (by intro e;subst e;simp at hjl)
   simp only[Option.some.injEq]at hh;subst hh;rw[zeM ys j hjl]at hj;have hplain:(⟨b,off,none⟩:Addr).add j=⟨b,off+j,none⟩:=by unfold Addr.add;split <;> simp_all
   rw[hplain,hc j hjl];exact hj
  obtain⟨v',w',hr,ho,hg,_⟩:=run_append_own (P:=P) w base t ty e i (.int .u8 0) 1 1 ht hi hz0 hz1 hz2 rfl (by omega) v xs.length (u8s xs) hv ad ys.length cap (u8s ys) (by simp[zaz]) hnews
   (λu hu=>by simp[u8s]at hu;obtain⟨x,_,rfl⟩:=hu;rfl) (by unfold maxLen;omega) (by omega) hbase
  refine⟨v',w',hr, ?_,hg⟩;unfold Own;rw[List.length_append,zf0];exact ho
theorem zbL {P:Program} {ops:Array Oper} {Q:Exit->Act->World->Prop} {a:Act} {w:World} {rest:List Oper} {o:Oper} (hw:Region.wanted o (yielded ops a.tmps)=true)
 (h:∀ K:Act->World->Prop,(∀ a w,wpList P ops Q rest a w->K a w)->o.wp P a w K Q):wpList P ops Q (o :: rest) a w:=
 wpList_step λK hK=>by rw[if_pos hw];exact h K hK
theorem zaT {P:Program} {w:World} {ops:Array Oper} {rest:List Oper} {o:Oper} {a:Act} {Q:Exit->Act->World->Prop} (hw:Region.wanted o (yielded ops a.tmps)=true) (s x:Operand) (t:TypeId)
 (ho:o.op=.call { callee:=.builtin .append,args:=#[s,x],argTypes:=#[t,t] }) (base:Nat) (e:TypeId) (ht:P.underlying t=some (.slice e)) (hinfo:(P.info? e).map (λi=>(i.zero,i.size,i.bytes))=some (some (.int .u8 0),1,1))
 {v y:Value} {xs ys:List UInt8} (hs:a.eval s=v) (hx:a.eval x=y) (hv:Own w base e v xs) (hy:Bs w y ys) (hb:xs.length+ys.length<=140737488355328) (hbase:base<=w.heap.size)
 (h:∀ v' w',Own w' base e v' (xs ++ ys)->w.grownBy w' v.ownBlock->wpList P ops Q rest (a.put o.dst v') w'):wpList P ops Q (o :: rest) a w:=by
 refine zbL hw λK hK=>?_
 obtain⟨v',w',hr,h2,h3⟩:=zgQ (P:=P) w base t o.type e ht hinfo hv hy hb hbase;unfold Oper.wp execOp;simp only[ho,resolve,invoke,builtin,Sem.run_bind,Sem.run_pure,Result.andThen_ok,List.map_toArray,List.map_cons,List.map_nil,hs,hx,hr];exact hK _ _ (h v' w' h2 h3)
def seg (bs:List UInt8) (at_ n:Nat):List UInt8:=(bs.drop at_).take n
def okB (b:UInt8):Bool:=decide (33<=b.toNat)&&decide (b.toNat<=126)
def zaP (l:List UInt8):Bool:=decide (1<=l.length)&&decide (l.length<=24)&&l.all okB
theorem zbC (s:ByteArray):s.data.toList.length=s.size:=Array.length_toList
theorem zgO {s:ByteArray} (h:s.size<1∨24<s.size):zaP s.data.toList=false:=by
 unfold zaP;rw[zbC]
 rcases h with h | h
 ·have:decide (1<=s.size)=false:=decide_eq_false (by omega)
  rw[this];rfl
 ·have:decide (s.size<=24)=false:=decide_eq_false (by omega)
  rw[this];simp
theorem zm6 (s:ByteArray) (w:World) (h:s.size<1) :
 Calls Tryz.prog 145 #[.string s] w λe w'=>e=.returned (.bool (zaP s.data.toList))/\w'=w:=by
 have hf:Hid (zaP s.data.toList=false):=zgO (.inl h);go_enter Tryz.func145,Tryz.ntmps145;go_wp2;go_ret;exact⟨zab hf.out.symm,rfl⟩
theorem znZ (s:ByteArray) (w:World) (h:24<s.size) :
 Calls Tryz.prog 145 #[.string s] w λe w'=>e=.returned (.bool (zaP s.data.toList))/\w'=w:=by
 have hf:Hid (zaP s.data.toList=false):=zgO (.inr h);go_enter Tryz.func145,Tryz.ntmps145;go_wp2;go_ret;exact⟨zab hf.out.symm,rfl⟩
theorem znT (s:ByteArray) (k:Nat) (h:k<s.size):s.data.toList[k]'(by rw[zbC];exact h)=s[k]:=by simp;rfl
theorem zgz (s:ByteArray) (k:Nat) (h:k<s.size):s.data.toList.take (k+1)=s.data.toList.take k ++ [s[k]]:=by
 rw[List.take_succ_eq_append_getElem (by rw[zbC];exact h),znT s k h]
theorem zrS {s:ByteArray} {k:Nat} (h:k<s.size) (ht:(s.data.toList.take k).all okB=true) (a:33<=s[k].toNat) (b:s[k].toNat<=126):(s.data.toList.take (k+1)).all okB=true:=by
 rw[zgz s k h,List.all_append,ht];simp[okB,a,b]
theorem zuc {s:ByteArray} {k:Nat} (h:k<s.size) (a:¬ (33<=s[k].toNat/\s[k].toNat<=126)):zaP s.data.toList=false:=by
 have:s.data.toList.all okB=false:=by
  rw[List.all_eq_false];refine⟨s[k], ?_, ?_⟩
  ·rw[<- znT s k h];exact List.getElem_mem _
  ·simp only[okB,Bool.and_eq_true,decide_eq_true_eq];exact a
 unfold zaP;rw[this,Bool.and_false]
theorem zse {s:ByteArray} (ht:(s.data.toList.take s.size).all okB=true):s.data.toList.all okB=true:=by
 rwa [List.take_of_length_le (by rw[zbC];exact Nat.le_refl _)]at ht
theorem zta (s:ByteArray) (w:World) (h1:1<=s.size) (h2:s.size<=24) :
 Calls Tryz.prog 145 #[.string s] w λe w'=>e=.returned (.bool (zaP s.data.toList))/\w'=w:=by
 go_enter Tryz.func145,Tryz.ntmps145;go_wp2;go_loopw [14] (λi wr=>∃ k:Nat,k<=s.size/\i=.int .i64 k/\wr=w/\(s.data.toList.take k).all okB=true) (λi _=>s.size - (intOf i).toNat)
 case atStart=>exact⟨0,Nat.zero_le _,rfl,rfl,by simp⟩
 case round =>
  obtain⟨k,hk,rfl,rfl,ht⟩:=hrel;have HT:Hid ((s.data.toList.take k).all okB=true):=ht;clear ht;by_cases hlt:k<s.size
  ·by_cases hb:33<=s[k].toNat/\s[k].toNat<=126
   ·obtain⟨b1,b2⟩:=hb;go_wp2;go_roundw
    case rel=>exact⟨k+1,by omega,by go_num,by simp,zrS hlt HT.out b1 b2⟩
    case measure=>simp[intOf];omega
   ·have HF:Hid (zaP s.data.toList=false):=zuc hlt hb;by_cases c1:s[k].toNat<33
    ·clear hb;go_wp2;go_ret;exact⟨zab HF.out.symm,rfl⟩
    ·have c2:126<s[k].toNat:=by omega
     clear hb;go_wp2;go_ret;exact⟨zab HF.out.symm,rfl⟩
  ·have e:k=s.size:=by omega
   subst e;have HF:Hid (zaP s.data.toList=true):=by
    show _=_;unfold zaP;rw[zbC,zse HT.out];simp;omega
   go_wp2;go_ret;exact⟨zab HF.out.symm,rfl⟩
theorem zhk (s:ByteArray) (w:World) :
 Calls Tryz.prog 145 #[.string s] w λe w'=>e=.returned (.bool (zaP s.data.toList))/\w'=w:=by
 by_cases h1:s.size<1
 ·exact zm6 s w h1
 ·by_cases h2:24<s.size
  ·exact znZ s w h2
  ·exact zta s w (by omega) (by omega)
theorem zdc (s:ByteArray) (hs:s.size<=maxLen) (w:World) :
 Calls Tryz.prog 178 #[.string s] w λe w'=>e=.returned (.bool (zaP s.data.toList))/\w'=w:=by
 unfold maxLen at hs;go_enter Tryz.func178,Tryz.ntmps178;go_wp2;go_loopw [3] (λi wr=>∃ k:Nat,k<=s.size/\i=.int .i64 k/\wr=w/\(s.data.toList.take k).all okB=true) (λi _=>s.size - (intOf i).toNat)
 case atStart=>exact⟨0,Nat.zero_le _,rfl,rfl,by simp⟩
 case round =>
  obtain⟨k,hk,rfl,rfl,ht⟩:=hrel;have HT:Hid ((s.data.toList.take k).all okB=true):=ht;clear ht;by_cases hlt:k<s.size
  ·by_cases hb:33<=s[k].toNat/\s[k].toNat<=126
   ·obtain⟨b1,b2⟩:=hb;go_wp2;go_roundw
    case rel=>exact⟨k+1,by omega,by go_num,by simp,zrS hlt HT.out b1 b2⟩
    case measure=>simp[intOf];omega
   ·have HF:Hid (zaP s.data.toList=false):=zuc hlt hb;by_cases c1:s[k].toNat<33
    ·clear hb;go_wp2;go_ret;exact⟨zab HF.out.symm,rfl⟩
    ·have c2:126<s[k].toNat:=by omega
     clear hb;go_wp2;go_ret;exact⟨zab HF.out.symm,rfl⟩
  ·have e:k=s.size:=by omega
   subst e;by_cases c1:0<s.size
   ·by_cases c2:s.size<=24
    ·have HF:Hid (zaP s.data.toList=true):=by
      show _=_;unfold zaP;rw[zbC,zse HT.out];simp;omega
     go_wp2;go_ret;exact⟨zab (by rw[HF.out];simp;omega),rfl⟩
    ·have HF:Hid (zaP s.data.toList=false):=zgO (.inr (by omega))
     go_wp2;go_ret;exact⟨zab (by rw[HF.out];simp;omega),rfl⟩
   ·have HF:Hid (zaP s.data.toList=false):=zgO (.inl (by omega))
    go_wp2;go_ret;exact⟨zab HF.out.symm,rfl⟩
def zxX:List (List UInt8 × Int × Int):=[
 ([110,111,112],0,0),
 ([108,100,97,114,103],4,0),
 ([115,116,97,114,103],4,0),
 ([108,100,97,114,103,97],4,0),
 ([108,100,108,111,99],3,0),
 ([115,116,108,111,99],3,0),
 ([108,100,108,111,99,97],3,0),
 ([108,100,99,52],1,0),
 ([108,100,99,56],2,0),
 ([108,100,110,117,108,108],0,0),
 ([100,117,112],0,0),
 ([112,111,112],0,0),
 ([97,100,100],0,0),
 ([115,117,98],0,0),
 ([109,117,108],0,0),
 ([100,105,118],0,0),
 ([114,101,109],0,0),
 ([97,110,100],0,0),
 ([111,114],0,0),
 ([120,111,114],0,0),
 ([115,104,108],0,0),
 ([115,104,114],0,0),
 ([110,101,103],0,0),
 ([110,111,116],0,0),
 ([97,100,100,111,118,102],0,0),
 ([115,117,98,111,118,102],0,0),
 ([109,117,108,111,118,102],0,0),
 ([99,111,110,118,52],0,0),
 ([99,111,110,118,56],0,0),
 ([99,111,110,118,111,118,102,52],0,0),
 ([99,101,113],0,0),
 ([99,103,116],0,0),
 ([99,108,116],0,0),
 ([98,114],5,1),
 ([98,114,116,114,117,101],5,2),
 ([98,114,102,97,108,115,101],5,2),
 ([98,101,113],5,2),
 ([98,103,101],5,2),
 ([98,103,116],5,2),
 ([98,108,101],5,2),
 ([98,108,116],5,2),
 ([98,110,101],5,2),
 ([99,97,108,108],6,0),
 ([99,97,108,108,118,105,114,116],6,0),
 ([110,101,119,111,98,106],6,0),
 ([114,101,116],0,3),
 ([116,97,105,108],0,0),
 ([108,100,102,108,100],7,0),
 ([115,116,102,108,100],7,0),
 ([108,100,102,108,100,97],7,0),
 ([108,100,115,102,108,100],7,0),
 ([115,116,115,102,108,100],7,0),
 ([108,100,115,102,108,100,97],7,0),
 ([108,100,111,98,106],8,0),
 ([115,116,111,98,106],8,0),
 ([105,110,105,116,111,98,106],8,0),
 ([110,101,119,97,114,114],8,0),
 ([108,100,108,101,110],0,0),
 ([108,100,101,108,101,109],8,0),
 ([115,116,101,108,101,109],8,0),
 ([108,100,101,108,101,109,97],8,0),
 ([98,111,120],8,0),
 ([117,110,98,111,120],8,0),
 ([117,110,98,111,120,97,110,121],8,0),
 ([99,97,115,116,99,108,97,115,115],8,0),
 ([105,115,105,110,115,116],8,0),
 ([108,100,102,116,110],6,0),
 ([110,101,119,100,101,108],8,0),
 ([116,104,114,111,119],0,3),
 ([114,101,116,104,114,111,119],0,3),
 ([108,101,97,118,101],5,4),
 ([101,110,100,102,105,110,97,108,108,121],0,5),
 ([101,110,100,102,105,108,116,101,114],0,5),
 ([105,110],0,0),
 ([111,117,116],0,0)]
def opI (n:Int):List UInt8 × Int × Int:=if 1<=n/\n<=75 then zxX.getD (n - 1).toNat ([],0,0) else ([],0,0)
def opS (n:Int):ByteArray:=⟨(opI n).1.toArray⟩
def opP (n:Int):Int:=(opI n).2.1
def opW (n:Int):Int:=(opI n).2.2
theorem zjM {n:Int} (h:¬ (1<=n/\n<=75)):opI n=([],0,0):=by unfold opI;rw[if_neg h]
theorem zdb {n:Int} (h:¬ (1<=n/\n<=75)):opS n=⟨#[]⟩:=by unfold opS;rw[zjM h]
theorem zcy {n:Int} (h:¬ (1<=n/\n<=75)):opP n=0:=by unfold opP;rw[zjM h]
theorem zdU {n:Int} (h:¬ (1<=n/\n<=75)):opW n=0:=by unfold opW;rw[zjM h]
theorem zdF {a b:ByteArray} {c d e f:Int} (h:a=b) (g:c=d) (i:e=f):Ending.returned (.agg #[.string a,.int .i64 c,.int .i64 e])=.returned (.agg #[.string b,.int .i64 d,.int .i64 f]):=by rw[h,g,i]
def ext (bs:List UInt8) (n:Nat):List UInt8:=bs ++ List.replicate n 0
theorem zsT (n:Nat):madeCells (Value.int .u8 0).cells n=(u8s (List.replicate n 0)).toArray:=by
 apply Array.ext
 ·simp[madeCells,u8s]
 ·intro i h1 h2;simp[madeCells,u8s,Value.cells,Nat.mod_one]
theorem zer (w:World) (X Y:Array Value) (e:TypeId):(w.alloc (.cells X e)).setRow w.heap.size Y=w.alloc (.cells Y e):=by
 show ({ w with heap:=(w.heap.push (.cells X e)).modify w.heap.size _ }:World)={ w with heap:=w.heap.push (.cells Y e) }
 congr 1
 apply Array.ext
 ·simp
 ·intro k h1 h2;simp only[Array.size_modify,Array.size_push]at h1 h2;rw[Array.getElem_modify];by_cases hk:k=w.heap.size
  ·subst hk;simp
  ·rw[if_neg (by omega),Array.getElem_push_lt (by omega),Array.getElem_push_lt (by omega)]
theorem zhG {P:Program} (w:World) (dT sT ty e:TypeId) (hu:P.underlying dT=some (.slice e)) (hs:(P.info? e).map (·.size)=some 1) {v:Value} {bs:List UInt8} (hv:Bs w v bs) (n:Nat) :
 (Builtin.copy_ #[dT,sT] ty #[.slice (some ⟨w.heap.size,0,none⟩) (bs.length+n) (bs.length+n),v]).run P (w.alloc (.cells (u8s (List.replicate (bs.length+n) 0)).toArray e)) =
   .ok (goInt bs.length) (w.alloc (.cells (u8s (ext bs n)).toArray e)):=by
 obtain⟨a,cap,rfl,h1,h2,h3⟩:=hv;by_cases hb:bs=[]
 ·subst hb;have:=run_copy_none (P:=P) (w.alloc (.cells (u8s (List.replicate (0+n) 0)).toArray e)) dT sT ty e (some ⟨w.heap.size,0,none⟩) a (0+n) (0+n) 0 cap hu hs (by simp)
  simpa[ext]using this
 ·obtain⟨b,off,rfl,hlt,hc⟩:=h3 hb;have hg:(w.alloc (.cells (u8s (List.replicate (bs.length+n) 0)).toArray e)).heap[w.heap.size]? =some (.cells (u8s (List.replicate (bs.length+n) 0)).toArray e (0,0)):=heap_alloc_new _ _;have:=run_copy_row P (w.alloc (.cells (u8s (List.replicate (bs.length+n) 0)).toArray e)) dT sT ty e w.heap.size 0 (bs.length+n) (bs.length+n) ⟨b,off,none⟩ bs.length cap (u8s (List.replicate (bs.length+n) 0)).toArray e (u8s bs) hu hs hg
   (by simp[zaz]) (λj v hj=>by
     have hjl:j<bs.length:=by
      rcases Nat.lt_or_ge j bs.length with h | h
      ·exact h
      ·rw[List.getElem?_eq_none (by simpa[u8s]using h)]at hj;simp at hj
     rw[zeM bs j hjl]at hj;have hplain:(⟨b,off,none⟩:Addr).add j=⟨b,off+j,none⟩:=by unfold Addr.add;split <;> simp_all
     rw[hplain,World.cell?_alloc_past _ _ _ hlt,hc j hjl];exact hj)
   (by simp[zaz]) (λv hv=>by simp[u8s]at hv;obtain⟨x,_,rfl⟩:=hv;rfl)
  rw[zaz]at this;rw[this]
  congr 1
  rw[zer]
  congr 2
  simp[ext,zf0,u8s,List.drop_replicate]
theorem Tryz.infoU8:(Tryz.prog.info? 5).map (λi=>(i.zero,i.size,i.bytes))=some (some (.int .u8 0),1,1):=by kernel_rfl
theorem zjR (w:World) (n:Nat) (hn:n<=281474976710656) :
 (Instr.makeSlice 158 (.int .i64 (n:Int)) (.int .i64 (n:Int))).run Tryz.prog w=.ok (.slice (some ⟨w.heap.size,0,none⟩) n n) (w.alloc (.cells (u8s (List.replicate n 0)).toArray 5)):=by
 obtain⟨i,hi,hz0,hz1,hz2⟩:=info_parts Tryz.infoU8;have:=run_make (P:=Tryz.prog) w 158 5 i (.int .u8 0) Tryz.underlying158 hi hz0 .i64 .i64 (n:Int) (n:Int) (by omega) (by omega) (by rw[hz2];omega) (by omega)
 rw[this,hz1];simp[zsT]
theorem zvF:(Tryz.prog.info? 5).map (·.size)=some 1:=by
 obtain⟨i,hi,hz0,hz1,hz2⟩:=info_parts Tryz.infoU8;simp[hi,hz1]
theorem znk {v:Value} {bs:List UInt8} {w:World} (hv:Bs w v bs) (n:Nat) (hn:bs.length+n<=281474976710656) :
 Calls Tryz.prog 249 #[v,.int .i64 (n:Int)] w λe w'=>e=.returned (.slice (some ⟨w.heap.size,0,none⟩) (bs.length+n) (bs.length+n)) /\
  w'=w.alloc (.cells (u8s (ext bs n)).toArray 5):=by
 have hmk:=λw=>zjR w (bs.length+n) hn
 have hcp:=zhG (P:=Tryz.prog) w 158 158 3 5 Tryz.underlying158 zvF hv n;obtain⟨a,cap,rfl,h1,h2,h3⟩:=hv;clear h3;generalize ext bs n=r at *;rw[show ((bs.length+n:Nat):Int)=(bs.length:Int)+n from by omega]at hmk
 go_enter Tryz.func249,Tryz.ntmps249;go_wp2;go_ret;exact⟨rfl,rfl⟩
theorem sA {α:Type} (l:List α) (i:Nat) (a:α):l.toArray.setIfInBounds i a=(l.set i a).toArray:=List.setIfInBounds_toArray l i a
theorem s0 {α:Type} (x a:α) (l:List α):(x :: l).set 0 a=a :: l:=List.set_cons_zero
theorem sS {α:Type} (x a:α) (l:List α) (n:Nat):(x :: l).set (n+1) a=x :: l.set n a:=List.set_cons_succ
theorem tY {P:Program} {md:Region.Mode} {ops:Array Oper} {Q:Exit->Act->World->Prop} {S:World->Prop} {fuel:Nat} {listed:Array Bool} {a a':Act} {w:World} (i:Nat) (oi:Oper) (v:Value)
 (hS:S w) (h:wpAnyH P md ops Q S fuel (listed.setIfInBounds i true) a' w) (ha:a.put oi.dst v=a':=by (simp only[Act.put,sA,s0,sS];first | done | exact rfl)) (hi:ops[i]? =some oi:=by rfl) (hs:Region.noSelect ops=true:=by kernel_rfl) (hf:Region.free md ops listed i=true:=by kernel_rfl)
 (hr:(Region.ready md ops listed).contains i=true:=by kernel_rfl) (hQ:∀ c a w,Q (.panic c) (a.put oi.dst v) w->Q (.panic c) a w:=by exact λ_ _ _ h=>h)
 (hy:YieldsIf P ops S oi v a:=by exact Or.inl ⟨by rfl,by intro w' hSw;(try dsimp only at hSw);go_simp⟩):wpAnyH P md ops Q S (fuel+1) listed a w:=by subst ha;exact wpAnyH_take hi hs hf hr hQ hy hS h
theorem tN {P:Program} {md:Region.Mode} {ops:Array Oper} {Q:Exit->Act->World->Prop} {S:World->Prop} {fuel:Nat} {listed:Array Bool} {a a':Act} {w:World} (i:Nat) (oi:Oper)
 (hS:S w) (h:wpAnyH P md ops Q S fuel (listed.setIfInBounds i true) a' w) (ha:a.put oi.dst undef=a':=by (simp only[Act.put,sA,s0,sS];first | done | exact rfl)) (hi:ops[i]? =some oi:=by rfl) (hs:Region.noSelect ops=true:=by kernel_rfl) (hf:Region.free md ops listed i=true:=by kernel_rfl)
 (hr:(Region.ready md ops listed).contains i=true:=by kernel_rfl) (hQ:∀ c a w,Q (.panic c) (a.put oi.dst undef) w->Q (.panic c) a w:=by exact λ_ _ _ h=>h)
 (hy:YieldsIf P ops S oi undef a:=by exact Or.inr ⟨by rfl,rfl⟩):wpAnyH P md ops Q S (fuel+1) listed a w:=by subst ha;exact wpAnyH_take hi hs hf hr hQ hy hS h
def zlP (a b:Int):Int:=if a<b then -1 else if b<a then 1 else 0
theorem zqo (a:Int) (w:World):Calls Tryz.prog 176 #[.int .i64 a] w λe w'=>e=.returned (.bool false)/\w'=w:=by
 go_enter Tryz.func176,Tryz.ntmps176;go_wp2;go_ret;exact⟨rfl,rfl⟩
theorem zd9 (a b:Int) (w:World):Calls Tryz.prog 151 #[.int .i64 a,.int .i64 b] w λe w'=>e=.returned (.int .i64 (zlP a b))/\w'=w:=by
 go_enter Tryz.func151,Tryz.ntmps151;go_wp2_with (go_at_call 176;refine (zqo _ _).mono ?_;rintro e wz ⟨rfl,hz⟩;subst wz)
 all_goals (go_ret;exact⟨zak (by unfold zlP;omega),rfl⟩)
end Go.Proofs.YtkedhjdipnhgdaaGreat

namespace Go.Proofs.YtkedhjdipnhgdaaGreat
set_option maxHeartbeats 16000000
set_option linter.all false
open Go.ChangeShapes Go.WideShapes Go.ChangeAt Go.RowKit
open Go.ChangeMaps (open_string shut_string)
theorem Tryz.own:ownKnob Tryz.prog.godebug=none:=by kernel_rfl
theorem Tryz.laidOut:laidOutB Tryz.prog=true:=by kernel_rfl
end Go.Proofs.YtkedhjdipnhgdaaGreat

namespace Go.Proofs.YtkedhjdipnhgdaaGreat
set_option maxHeartbeats 16000000
set_option linter.all false
open Go.ChangeShapes Go.WideShapes Go.ChangeAt Go.RowKit
theorem zm5 {α:Type} {cs:List α} (h:cs.length=4):∃ c0 c1 c2 c3,cs=[c0,c1,c2,c3]:=by
 match cs,h with
 | [c0,c1,c2,c3],_=>exact⟨c0,c1,c2,c3,rfl⟩
theorem zv5 {α:Type} {cs:List α} (h:cs.length=6):∃ c0 c1 c2 c3 c4 c5,cs=[c0,c1,c2,c3,c4,c5]:=by
 match cs,h with
 | [c0,c1,c2,c3,c4,c5],_=>exact⟨c0,c1,c2,c3,c4,c5,rfl⟩
theorem Tryz.cellsTy:Tryz.prog.cellsOf 47=4:=by kernel_rfl
theorem Tryz.cellsInt:Tryz.prog.cellsOf 3=1:=by kernel_rfl
theorem Tryz.cellsBool:Tryz.prog.cellsOf 4=1:=by kernel_rfl
theorem ze0 {H:Type} {enc:TypeId × Value->H} {W:World} {cs:List Value} {n:Nat} {y:DataW H × List MemPlace}
 (h:DataW.trod enc Tryz.prog W 0 (λ_=>true) true n 47 cs=some y):∃ t:Ty,cs=[.int .i64 t.1,.int .i64 t.2.1,.int .i64 t.2.2.1,.bool t.2.2.2]:=by
 obtain⟨y0,y1,y2,y3,m,_,hl,h0,h1,h2,h3⟩:=Go.Joins.trod_struct4 Tryz.underlying47 h;rw[Tryz.cellsTy]at hl;obtain⟨c0,c1,c2,c3,rfl⟩:=zm5 hl;simp only[Tryz.cellsInt,Tryz.cellsBool,List.drop_zero,List.drop_succ_cons,List.take_succ_cons,List.take_zero]at h0 h1 h2 h3;obtain⟨x0,e0,_,_⟩:=DataW.trod_int Tryz.underlying3 h0;obtain⟨x1,e1,_,_⟩:=DataW.trod_int Tryz.underlying3 h1;obtain⟨x2,e2,_,_⟩:=DataW.trod_int Tryz.underlying3 h2;obtain⟨x3,e3,_⟩:=DataW.trod_bool Tryz.underlying4 h3;simp only[List.cons.injEq,and_true]at e0 e1 e2 e3;subst e0 e1 e2 e3;exact⟨(x0,x1,x2,x3),rfl⟩
abbrev Ins:=Int × Int × Ty
def iv (x:Ins):Value:=.agg #[.int .i64 x.1,.int .i64 x.2.1,.int .i64 x.2.2.1,.int .i64 x.2.2.2.1,.int .i64 x.2.2.2.2.1,.bool x.2.2.2.2.2]
theorem Tryz.cellsI64:Tryz.prog.cellsOf 2=1:=by kernel_rfl
theorem Tryz.cellsInstr:Tryz.prog.cellsOf 65=6:=by kernel_rfl
theorem zpS {H:Type} {enc:TypeId × Value->H} {W:World} {cs:List Value} {n:Nat} {y:DataW H × List MemPlace} (hl:cs.length=6)
 (h:DataW.trod enc Tryz.prog W 0 (λ_=>true) true n 65 cs=some y):∃ x:Ins,cs=[.int .i64 x.1,.int .i64 x.2.1,.int .i64 x.2.2.1,.int .i64 x.2.2.2.1,.int .i64 x.2.2.2.2.1,.bool x.2.2.2.2.2]:=by
 obtain⟨c0,c1,c2,c3,c4,c5,rfl⟩:=zv5 hl;obtain⟨y0,y1,y2,m,_,_,h0,h1,h2⟩:=Go.Deep.trod_struct3 Tryz.underlying65 h;simp only[Tryz.cellsInt,Tryz.cellsI64,Tryz.cellsTy,List.drop_zero,List.drop_succ_cons,List.take_succ_cons,List.take_zero]at h0 h1 h2;obtain⟨x0,e0,_,_⟩:=DataW.trod_int Tryz.underlying3 h0;obtain⟨x1,e1,_,_⟩:=DataW.trod_int Tryz.underlying2 h1;obtain⟨t,e2⟩:=ze0 h2;simp only[List.cons.injEq,and_true]at e0 e1 e2;obtain⟨rfl,rfl,rfl,rfl⟩:=e2;subst e0 e1;exact⟨(x0,x1,t),rfl⟩
end Go.Proofs.YtkedhjdipnhgdaaGreat
