import Derived.Test.YtkedhjdipnhgdaaGreatR41
namespace Go.Proofs.YtkedhjdipnhgdaaGreat
set_option maxHeartbeats 16000000
set_option linter.all false
open Go.RowKit Go.Maps
attribute [local go_sem ↓] wp_at_zero wp_at_succ
structure Bm (m:Nat) (w w':World):Prop where
 os:w'.os=w.os
 tape:w'.tape=w.tape
 output:w'.output=w.output
 size:w.heap.size<=w'.heap.size
 block:∀ k,k<w.heap.size->k≠m->w'.heap[k]? =w.heap[k]?
theorem Bm.refl (m:Nat) (w:World):Bm m w w:=⟨rfl,rfl,rfl,Nat.le_refl _,λ_ _ _=>rfl⟩
theorem Bm.trans {m:Nat} {a b c:World} (h:Bm m a b) (h2:Bm m b c):Bm m a c:=
 ⟨h2.os.trans h.os,h2.tape.trans h.tape,h2.output.trans h.output,Nat.le_trans h.size h2.size,λk hk hm=>(h2.block k (Nat.lt_of_lt_of_le hk h.size) hm).trans (h.block k hk hm)⟩
theorem Bm.of {m:Nat} {w w':World} (h:Below w.heap.size w w'):Bm m w w':=⟨h.os,h.tape,h.output,h.size,λk hk _=>h.block k hk⟩
theorem Bm.grown {m:Nat} {w w':World} (h:w.grownBy w' (some m)):Bm m w w':=⟨h.os,h.tape,h.output,h.size,λk hk hm=>h.block k hk (λe=>hm (by simpa using e))⟩
theorem Bm.below {m base:Nat} {win w w':World} (hb:Below base win w) (hs:base<=win.heap.size) (hm:base<=m) (h:Bm m w w'):Below base win w':=
 ⟨h.os.trans hb.os,h.tape.trans hb.tape,h.output.trans hb.output,Nat.le_trans hb.size h.size,λk hk=>(h.block k (by have:=hb.size;omega) (by omega)).trans (hb.block k hk)⟩
theorem At.bm {m b:Nat} {w w':World} {C:Array Value} {t:TypeId} (h:At w b C t) (hb:Bm m w w') (hne:b≠m):At w' b C t:=by
 have hl:=h.lt;unfold At at h ⊢;rw[hb.block b hl hne];exact h
def UM (w:World) (mm:Nat) (g:Img) (c:Nat):Prop:=∃ (n:Nat) (D:DataW Unit),w.ownsMap Tryz.prog 47 (unitElem (H:=Unit)) mm n D/\n<=c/\∀ t,WfT t->Maps.has D (zgU t)=true->zaw g t=true
theorem zbW {w w':World} {mm n:Nat} {D:DataW Unit} (h:w.ownsMap Tryz.prog 47 (unitElem (H:=Unit)) mm n D) (hb:Below w.heap.size w w'):w'.ownsMap Tryz.prog 47 (unitElem (H:=Unit)) mm n D:=by
 have hlt:=h.lt;obtain⟨es,clock,hh,r⟩:=h;exact⟨es,clock,(hb.block mm hlt).trans hh,r⟩
theorem UM.later {w w':World} {mm c:Nat} {g:Img} (h:UM w mm g c) (hb:Below w.heap.size w w'):UM w' mm g c:=by
 obtain⟨n,D,h1,h2,h3⟩:=h;exact⟨n,D,zbW h1 hb,h2,h3⟩
theorem UM.mono {w:World} {mm c d:Nat} {g:Img} (h:UM w mm g c) (hcd:c<=d):UM w mm g d:=by
 obtain⟨n,D,h1,h2,h3⟩:=h;exact⟨n,D,h1,Nat.le_trans h2 hcd,h3⟩
theorem UM.lt {w:World} {mm c:Nat} {g:Img} (h:UM w mm g c):mm<w.heap.size:=by
 obtain⟨n,D,h1,_⟩:=h;exact h1.lt
theorem UM.ne {w:World} {mm c b:Nat} {g:Img} {C:Array Value} {t:TypeId} (h:UM w mm g c) (hA:At w b C t):b≠mm:=by
 obtain⟨n,D,⟨es,clock,hh,r⟩,_⟩:=h;rintro rfl;unfold At at hA;rw[hh]at hA
 cases hA
def usA (g:Img) (mm:Nat):Array Value:=#[.slice g.ta g.ts.length g.tc,.slice g.fa g.fs.length g.fc,.slice g.ma g.ms.length g.mc,.int .i64 g.en,.map (some mm)]
def usV (g:Img) (mm:Nat):Value:=.agg #[.slice g.ta g.ts.length g.tc,.slice g.fa g.fs.length g.fc,.slice g.ma g.ms.length g.mc,.int .i64 g.en,.map (some mm)]
abbrev Us5 (W:World) (b:Nat) (g:Img) (mm:Nat):Prop:=W.cell? ⟨b,0,none⟩=some (.slice g.ta g.ts.length g.tc)/\W.cell? ⟨b,1,none⟩=some (.slice g.fa g.fs.length g.fc)/\W.cell? ⟨b,2,none⟩=some (.slice g.ma g.ms.length g.mc)/\W.cell? ⟨b,3,none⟩=some (.int .i64 g.en)/\W.cell? ⟨b,4,none⟩=some (.map (some mm))
theorem Us5.of {W:World} {b mm:Nat} {g:Img} {t:TypeId} (h:At W b (usA g mm) t):Us5 W b g mm:=⟨h.cell 0,h.cell 1,h.cell 2,h.cell 3,h.cell 4⟩
def zcT (t:Ty):Ty:=(t.1,t.2.1,0,false)
theorem ziF {t:Ty} (h:plainT t=true):1<=t.1/\t.1<=7/\0<=t.2.1/\t.2.1<32/\0<=t.2.2.1/\t.2.2.1<=3:=by
 unfold plainT zaB at h;rw[decide_eq_true_iff]at h;omega
theorem zlc {t:Ty} (h:plainT t=true):plainT (zcT t)=true:=by
 unfold plainT zaB at h ⊢;rw[decide_eq_true_iff]at h ⊢;obtain⟨_,_,h3,h4⟩:=h;refine⟨Int.le_refl 0,(show (0:Int)<=3 by decide),h3, ?_⟩
 rcases h4 with ⟨a,_,_,d⟩ | h4 | h4 | h4
 ·exact Or.inl ⟨a,rfl,rfl,d⟩
 ·exact Or.inr (Or.inl h4)
 ·exact Or.inr (Or.inr (Or.inl h4))
 ·exact Or.inr (Or.inr (Or.inr h4))
theorem ziy {g:Img} {t:Ty} (h:plainT t=true):zaw g (zcT t)=zaw g t:=by
 have h2:=zlc h;unfold zaw;rw[h,h2];rfl
theorem zjG {t:Int} (h:0<=t/\t<=1000):(Lit.int .i64 t).wf=true:=WalkArith.wf_i64 (by omega)
theorem zll {t:Ty} (h:plainT t=true):WfT (zcT t):=by
 obtain⟨h1,h2,h3,h4,_,_⟩:=ziF h;exact⟨zjG (show 0<=t.1/\t.1<=1000 by omega),zjG (show 0<=t.2.1/\t.2.1<=1000 by omega),zjG (show (0:Int)<=0/\(0:Int)<=1000 by omega)⟩
set_option maxRecDepth 20000 in
theorem zit {win w:World} {mm c:Nat} {g:Img} {t:Ty} (hw:zaY g=true) (hg:Im win g) (hbel:Below win.heap.size win w) (hlo:win.heap.size<=mm) (hU:UM w mm g c) (hc:c<=1000000) (ht:plainT t=true) :
 Calls Tryz.prog 39 #[usV g mm,.agg #[.int .i64 t.1,.int .i64 t.2.1,.int .i64 t.2.2.1,.bool t.2.2.2]] w λe w'=>e=.returned (.bool (zaw g t))/\Bm mm w w'/\UM w' mm g (c+1):=by
 obtain⟨w0,hw0⟩:∃ W,W=(w.alloc (.cells (usA g mm) 54)).alloc (.cells #[.int .i64 t.1,.int .i64 t.2.1,.int .i64 0,.bool false] 47):=⟨_,rfl⟩;have HW0:Hid (w0=_):=hw0;obtain⟨hb0,hat⟩:=zan hw0;have HB0:Hid (Below w.heap.size w w0):=hb0;have HU5:Hid (∀ W,Below w0.heap.size w0 W->Us5 W w.heap.size g mm):=λW hW=>Us5.of (hat W hW).1
 have HT4:Hid (∀ W,Below w0.heap.size w0 W->W.cell? ⟨w.heap.size+1,0,none⟩=some (.int .i64 t.1)/\W.cell? ⟨w.heap.size+1,1,none⟩=some (.int .i64 t.2.1)/\W.cell? ⟨w.heap.size+1,2,none⟩=some (.int .i64 0)/\W.cell? ⟨w.heap.size+1,3,none⟩=some (.bool false)):=λW hW=>by
  have h:=(hat W hW).2;exact⟨h.cell 0,h.cell 1,h.cell 2,h.cell 3⟩
 obtain⟨n,D,hmap0,hn,hgood⟩:=hU.later hb0;obtain⟨wA,hwA⟩:∃ W,W=w0.alloc (.cells #[] 95):=⟨_,rfl⟩;have HWA:Hid (wA=_):=hwA;have hbA:Below w0.heap.size w0 wA:=by rw[hwA];exact zac _ _ _
 have HBA:Hid (Below w0.heap.size w0 wA):=hbA;have HUA:Hid (wA.ownsMap Tryz.prog 47 (unitElem (H:=Unit)) mm n D):=zbW hmap0 hbA;have HGd:Hid (∀ t,WfT t->Maps.has D (zgU t)=true->zaw g t=true):=hgood;have hkey:keyOf Tryz.prog 47 (.agg #[.int .i64 t.1,.int .i64 t.2.1,.int .i64 0,.bool false])=some (zgU (zcT t)):=zha (zll ht);have HWf:Hid (WfT (zcT t)):=zll ht;have HSt:Hid (zaw g (zcT t)=zaw g t):=ziy ht;have HUs:Hid (∀ W,Below w0.heap.size w0 W->Ans 67 #[zao g,.agg #[.int .i64 t.1,.int .i64 t.2.1,.int .i64 0,.bool false]] W (.bool (zaw g t))):=λW hW=>by
  have:=znh (zcT t) ((hg.later (zaa hbel hb0)).later hW);rw[hw,ziy ht]at this;exact this
 have HNc:Hid (n<=c):=hn;have hn2:n<=1000000:=by omega
 obtain⟨c0,c1,c2,c3,c4⟩:=HU5.out w0 (Below.refl _ _);obtain⟨d0,d1,d2,d3⟩:=HT4.out w0 (Below.refl _ _);have hmap:w0.ownsMap Tryz.prog 47 (unitElem (H:=Unit)) mm n D:=hmap0;unfold usA at HW0;unfold zao at HUs;unfold usV;clear hw0 hb0 hat hU hmap0 hgood hn hwA hbA hw hg hbel ht;generalize zaw g t=F at *;generalize hkl:zgU (zcT t)=kl at *;have HKl:Hid (zgU (zcT t)=kl):=hkl;clear hkl
 cases hhas:Maps.has D kl with
 | true =>
  have HF:Hid (F=true):=by
   show _=_;rw[<- HSt.out];exact HGd.out _ HWf.out (by rw[HKl.out];exact hhas)
  go_enter Tryz.func39,Tryz.ntmps39;go_wp2_with (first | (at_lookup;go_must (refine wpList_lookup_own_unit _ rfl _ _ 52 rfl 47 95 zsR Tryz.underlying52 (zmt _) mm _ _ rfl hmap _ _ rfl hkey ?_)) | (rw[<- HWA.out]) | (rw[<- HW0.out]))
  go_ret;exact⟨zab HF.out.symm,Bm.of (zaa HB0.out HBA.out),n,D,HUA.out,Nat.le_succ_of_le HNc.out,HGd.out⟩
 | false =>
  obtain⟨e0,e1,e2,e3,e4⟩:=HU5.out wA HBA.out;obtain⟨f0,f1,f2,f3⟩:=HT4.out wA HBA.out;go_enter Tryz.func39,Tryz.ntmps39;go_wp2_with (first | (at_lookup;go_must (refine wpList_lookup_own_unit _ rfl _ _ 52 rfl 47 95 zsR Tryz.underlying52 (zmt _) mm _ _ rfl hmap _ _ rfl hkey ?_)) | (rw[<- HWA.out]) | (rw[<- HW0.out]))
  refine Calls.mono (HUs.out wA HBA.out) ?_;rintro e w1 ⟨rfl,hb1⟩;have HB1:Hid (Below w0.heap.size w0 w1):=zaa HBA.out hb1;have hmap1:w1.ownsMap Tryz.prog 47 (unitElem (H:=Unit)) mm n D:=zbW HUA.out hb1;clear hb1 c0 c1 c2 c3 c4 d0 d1 d2 d3 e0 e1 e2 e3 e4 f0 f1 f2 f3 hmap
  cases F with
  | false =>
   go_wp2_with fail
   go_ret;exact⟨rfl,Bm.of (zaa HB0.out HB1.out),n,D,hmap1,Nat.le_succ_of_le HNc.out,HGd.out⟩
  | true =>
   obtain⟨c0,c1,c2,c3,c4⟩:=HU5.out w1 HB1.out;obtain⟨d0,d1,d2,d3⟩:=HT4.out w1 HB1.out;go_wp2_with (at_mapUpdate;go_must (refine wpList_mapUpdate_own _ rfl _ _ _ 52 rfl 47 95 zsR Tryz.underlying52 (unitElem (H:=Unit)) mm _ _ rfl hmap1 (by unfold maxLen;omega) _ _ _ rfl rfl hkey (.agg []) [] unitElem_mk ?_;intro w2 hown2 hgrow2))
   go_ret;refine⟨rfl,(Bm.of (zaa HB0.out HB1.out)).trans (Bm.grown hgrow2),_,_,hown2,by have:=HNc.out;omega,λs hs h=>?_⟩
   by_cases e:zgU s=kl
   ·have:s=zcT t:=zoo hs HWf.out (by rw[e,HKl.out])
    rw[this];exact HSt.out
   ·rw[has_put_other e]at h;exact HGd.out s hs h
end Go.Proofs.YtkedhjdipnhgdaaGreat

namespace Go.Proofs.YtkedhjdipnhgdaaGreat
set_option maxHeartbeats 16000000
set_option linter.all false
open RowKit
attribute [local go_sem ↓] wp_at_zero wp_at_succ
def zlY (g:Img) (t:Int) (i:Nat):List Ty:=((g.fs.take i).filter (zdf t)).flatMap (λx=>zbl g x.t)
theorem zoe {g:Img} {t:Int} {i:Nat} (hi:i<g.fs.length):zlY g t (i+1)=zlY g t i ++ (if zdf t g.fs[i]=true then zbl g g.fs[i].t else []):=by
 unfold zlY;rw[List.take_succ_eq_append_getElem hi,List.filter_append,List.flatMap_append]
 congr 1
 cases h:zdf t g.fs[i] <;> simp[List.filter_cons,h]
theorem zlg {g:Img} {t:Int} {i:Nat} (hi:g.fs.length<=i):zlY g t i=zde g t:=by
 unfold zlY zde zbP;rw[List.take_of_length_le hi,List.flatMap_map]
theorem zrd {g:Img} {t:Int} {i:Nat} (hi:i<g.fs.length) (h:zdf t g.fs[i]=true):g.fs[i].t∈zbP g t:=by
 unfold zbP;rw[List.mem_map];exact⟨_,List.mem_filter.2 ⟨List.getElem_mem hi,h⟩,rfl⟩
theorem zkk {t:Int} {x:FD} (h:(x.ow==t)=false):zdf t x=false:=by unfold zdf;rw[beq_eq_false_iff_ne]at h;simp[h]
theorem zjp {t:Int} {x:FD} (h:x.st=true):zdf t x=false:=by unfold zdf;simp[h]
theorem znA {t:Int} {x:FD} (h:(x.ow==t)=true) (h2:x.st=false):zdf t x=true:=by unfold zdf;rw[beq_iff_eq]at h;simp[h,h2]
end Go.Proofs.YtkedhjdipnhgdaaGreat
