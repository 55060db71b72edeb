/- Texts joined: Met11, Come11, GoOn11. -/
import Derived.Test.YtapocgcdjkbnhaaDoorQ06
import Derived.Maps.OwnSet
import Derived.Maps.OwnOps
namespace Go.Proofs.YtapocgcdjkbnhaaDoor
set_option linter.unusedVariables false
set_option linter.unusedSimpArgs false
open Go.RowKit Go.Maps
attribute [local go_sem ↓] Go.wp_at_zero Go.wp_at_succ
def metD (L : List Int) : DataW Unit:=setOf (.agg []) (L.map (Lit.int .i64))
theorem any_int11 (x : Int) : ∀ l : List Int,l.any ((fun y : Lit => y.sameKey (.int .i64 x)) ∘ Lit.int .i64) = l.contains x
 | [] => rfl
 | a :: r => by
  rw [List.any_cons,List.contains_cons,any_int11 x r]
  congr 1
  show decide (IntKind.i64 = IntKind.i64∧a = x) = (x == a)
  by_cases e : a = x
  ·subst e
   simp
  ·have e' : ¬ x = a:=fun h => e h.symm
   simp [e,e']
theorem has_met (L : List Int) (x : Int) : Maps.has (metD L) (.int .i64 x) = L.contains x:=by
 unfold metD
 rw [has_setOf _ _ _ (fun y hy => by obtain ⟨_,_,rfl⟩:=List.mem_map.1 hy; trivial),List.any_map]
 exact any_int11 x _
theorem met_put (L : List Int) (x : Int) : metD (L ++ [x]) = (metD L).put (.int .i64 x) (.agg []):=by
 unfold metD
 rw [List.map_append,List.map_singleton,setOf_snoc]
theorem law11 : Keyed Tryd.prog 3:=int_keyed Tryd.underlying3
theorem zero11 (w : World) : (zeroValue 71).run Tryd.prog w = .ok (.agg #[]) w:=by kernel_rfl
def Wf (t : Int) : Prop:=(Lit.int .i64 t).wf = true
theorem key11 {t : Int} (h : Wf t) : keyOf Tryd.prog 3 (.int .i64 t) = some (.int .i64 t):=keyOf_int_mk Tryd.underlying3 h

structure Met (win w : World) (gb lb mb mm : Nat) (g : Img) (lv : Value) (L : List Int) : Prop where
 im : Im win g
 bel : Below win.heap.size win w
 box : At w gb (imC g) 26
 l : At w lb #[lv] 40
 m : At w mb #[.map (some mm)] 70
 own : OwnI w win.heap.size lv L
 map : w.ownsMap Tryd.prog 3 (unitElem (H:=Unit)) mm L.length (metD L)
 lo : win.heap.size ≤ gb∧win.heap.size ≤ lb∧win.heap.size ≤ mb∧win.heap.size ≤ mm
theorem Met.gbox {win w : World} {gb lb mb mm : Nat} {g : Img} {lv : Value} {L : List Int} (h : Met win w gb lb mb mm g lv L) : GB w gb g:=⟨h.box,h.im.later h.bel⟩
theorem ownsMap_later {w w' : World} {mm n : Nat} {D : DataW Unit} (h : w.ownsMap Tryd.prog 3 (unitElem (H:=Unit)) mm n D) (hb : Below w.heap.size w w') : w'.ownsMap Tryd.prog 3 (unitElem (H:=Unit)) mm n D:=by
 have hlt:=h.lt
 obtain ⟨es,clock,hh,r⟩:=h
 exact ⟨es,clock,(hb.block mm hlt).trans hh,r⟩
theorem ownsMap_ne {w : World} {mm n g : Nat} {D : DataW Unit} {C : Array Value} {t : TypeId} (h : w.ownsMap Tryd.prog 3 (unitElem (H:=Unit)) mm n D) (hA : At w g C t) : g ≠ mm:=by
 obtain ⟨es,clock,hh,r⟩:=h
 rintro rfl
 unfold At at hA
 rw [hh] at hA
 cases hA
theorem Met.later {win w w' : World} {gb lb mb mm : Nat} {g : Img} {lv : Value} {L : List Int} (h : Met win w gb lb mb mm g lv L) (hb : Below w.heap.size w w') : Met win w' gb lb mb mm g lv L :=
 ⟨h.im,bstep h.bel hb,h.box.later hb,h.l.later hb,h.m.later hb,h.own.later hb,ownsMap_later h.map hb,h.lo⟩
theorem Met.lv_ne {win w : World} {gb lb mb mm : Nat} {g : Img} {lv : Value} {L : List Int} (h : Met win w gb lb mb mm g lv L) : lv.ownBlock ≠ some gb∧lv.ownBlock ≠ some lb∧lv.ownBlock ≠ some mb∧lv.ownBlock ≠ some mm:=by
 refine ⟨h.own.ne h.box (by decide),h.own.ne h.l (by decide),h.own.ne h.m (by decide),fun e => ?_⟩
 obtain ⟨C,hC⟩:=h.own.typed mm e
 exact ownsMap_ne h.map hC rfl
def Sep (w : World) (tv : Value) (mm lb : Nat) (lv : Value) : Prop := ∀ k,tv.ownBlock = some k → k < w.heap.size∧k ≠ mm∧k ≠ lb∧lv.ownBlock ≠ some k
theorem Is.keep {w w' : World} {v : Value} {l : List Int} (h : Is w v l) (hs : w.heap.size ≤ w'.heap.size) (hk : ∀ k,v.ownBlock = some k → w'.heap[k]? = w.heap[k]?) : Is w' v l:=Sl.of_block h hs fun k hv _ => hk k hv

theorem Met.add {win w w2 w3 w4 w5 : World} {gb lb mb mm : Nat} {g : Img} {lv lv' tv : Value} {L ts : List Int} {t : Int} {o : Obj} (h : Met win w gb lb mb mm g lv L) (hi : Is w tv ts) (hs : Sep w tv mm lb lv)
  (hg2 : w.grownBy w2 (some mm)) (hm2 : w2.ownsMap Tryd.prog 3 (unitElem (H:=Unit)) mm (L.length + 1) ((metD L).put (.int .i64 t) (.agg []))) (h3 : w3 = w2.alloc o)
  (ho4 : OwnI w4 win.heap.size lv' (L ++ [t])) (hg4 : w3.grownBy w4 lv.ownBlock) (hp : lv'.ownBlock = lv.ownBlock ∨ lv'.ownBlock = some w3.heap.size) (h5 : w5 = w4.setCell ⟨lb,0,none⟩ lv') :
  Met win w5 gb lb mb mm g lv' (L ++ [t])∧Is w5 tv ts∧Sep w5 tv mm lb lv':=by
 obtain ⟨n1,n2,n3,n4⟩:=h.lv_ne
 have m1:=ownsMap_ne h.map h.box
 have m2:=ownsMap_ne h.map h.l
 have m3:=ownsMap_ne h.map h.m
 have g1 : gb ≠ lb:=fun e => by have:=h.box; rw [e] at this; exact absurd (At.type_eq this h.l) (by decide)
 have g3 : mb ≠ lb:=fun e => by have:=h.m; rw [e] at this; exact absurd (At.type_eq this h.l) (by decide)
 have s2:=hg2.size
 have s3 : w3.heap.size = w2.heap.size + 1:=by rw [h3]; simp
 have s4:=hg4.size
 have s5 : w5.heap.size = w4.heap.size:=by rw [h5]; simp
 have e5 : ∀ k,k ≠ lb → w5.heap[k]? = w4.heap[k]?:=fun k hk => by rw [h5]; exact RowKit.Below.heap_setCell _ _ _ _ hk
 have e3 : ∀ k,k < w2.heap.size → w3.heap[k]? = w2.heap[k]?:=fun k hk => by rw [h3]; exact heap_alloc_old w2 _ hk
 have ekeep : ∀ k,k < w.heap.size → k ≠ mm → lv.ownBlock ≠ some k → w4.heap[k]? = w.heap[k]?:=fun k h1 h2 h4 => by
  rw [hg4.block k (by omega) (fun e => h4 e.symm),e3 k (by omega),hg2.block k h1 (fun e => h2 (by simpa using e))]
 have hl4 : At w4 lb #[lv] 40:=by
  have:=h.l
  unfold At at this ⊢
  rw [ekeep lb h.l.lt m2 n2]; exact this
 have hown5 : lv'.ownBlock ≠ some lb:=ho4.ne hl4 (by decide)
 refine ⟨⟨h.im,⟨?_, ?_, ?_, ?_,fun k hk => ?_⟩, ?_, ?_, ?_, ?_, ?_,h.lo⟩,hi.keep (by omega) (fun k hk => ?_),fun k hk => ?_⟩
 ·rw [h5]; show w4.os = _; rw [hg4.os,h3]; show w2.os = _; rw [hg2.os]; exact h.bel.os
 ·rw [h5]; show w4.tape = _; rw [hg4.tape,h3]; show w2.tape = _; rw [hg2.tape]; exact h.bel.tape
 ·rw [h5]; show w4.output = _; rw [hg4.output,h3]; show w2.output = _; rw [hg2.output]; exact h.bel.output
 ·have:=h.bel.size; omega
 ·have:=h.bel.size
  have hlo:=h.lo
  rw [e5 k (by omega),ekeep k (by omega) (by omega) (fun e => by have:=(h.own.block k e).1; omega)]
  exact h.bel.block k hk
 ·have:=h.box
  unfold At at this ⊢
  rw [e5 gb g1,ekeep gb h.box.lt m1 n1]; exact this
 ·rw [h5]; exact hl4.set 0 lv'
 ·have:=h.m
  unfold At at this ⊢
  rw [e5 mb g3,ekeep mb h.m.lt m3 n3]; exact this
 ·refine ho4.of_block fun k hk _ => e5 k (fun e => ?_)
  rw [e] at hk; exact hown5 hk
 ·rw [met_put,List.length_append]
  obtain ⟨es,clock,hh,r⟩:=hm2
  have hlt:=h.map.lt
  refine ⟨es,clock, ?_,r⟩
  rw [e5 mm (fun e => m2 e.symm),hg4.block mm (by omega) (fun e => n4 e.symm),e3 mm (by omega)]
  exact hh
 ·obtain ⟨k1,k2,k3,k4⟩:=hs k hk
  rw [e5 k k3,ekeep k k1 k2 k4]
 ·obtain ⟨k1,k2,k3,k4⟩:=hs k hk
  refine ⟨by omega,k2,k3, ?_⟩
  rcases hp with hp | hp
  ·rw [hp]; exact k4
  ·rw [hp]; intro e; simp at e; omega
theorem Sep.later {w w' : World} {tv lv : Value} {mm lb : Nat} (h : Sep w tv mm lb lv) (hb : Below w.heap.size w w') : Sep w' tv mm lb lv:=fun k hk => by
 obtain ⟨h1,h2,h3,h4⟩:=h k hk
 have:=hb.size
 exact ⟨by omega,h2,h3,h4⟩

theorem wpList_append_int_at {ops : Array Oper} {Q : Exit → Act → World → Prop} {a : Act} {w : World} {rest : List Oper} {o : Oper} (hw : Region.wanted o (yielded ops a.tmps) = true) (s x : Operand)
  (ho : o.op = .call { callee := .builtin .append,args:=#[s,x],argTypes:=#[40,40] }) (base : Nat)
  {v y : Value} {l : List Int} {n : Int} (hs : a.eval s = v) (hx : a.eval x = y) (hv : OwnI w base v l) (hy : Src Tryd.prog 1 40 y 1 [.int .i64 n] w) (hl : l.length ≤ 100000) (hbase : base ≤ w.heap.size)
  (h : ∀ v' w',OwnI w' base v' (l ++ [n]) → w.grownBy w' v.ownBlock → (v'.ownBlock = v.ownBlock ∨ v'.ownBlock = some w.heap.size) → wpList Tryd.prog ops Q rest (a.put o.dst v') w') : wpList Tryd.prog ops Q (o :: rest) a w:=by
 refine wpList_append_at hw s x 40 40 ho base 3 (.int .i64 0) 8 Tryd.underlying40 Tryd.infoInt7 rfl hs hx hv hy (by rw [i64s_length]; unfold maxLen; omega) (by rw [i64s_length]; omega) hbase (fun v' w' ho hg hp _ => h v' w' ?_ hg hp)
 unfold OwnI
 rw [i64s_append]
 exact ho
theorem come_none (a : Option Addr) (cap : Nat) (b1 b2 b3 : Value) (w : World) :
  Calls Tryd.prog 52 #[.slice a 0 cap,b1,b2,b3] w fun e w' => e = .returned (.tuple #[])∧w' = w:=by
 go_enter Tryd.func52,Tryd.ntmps52
 go_wp2
 refine wp_loop_rounds 1 ?_; rw [rounds_succ]
 go_wp2
 go_end0
 exact ⟨rfl,rfl⟩

theorem OwnI.shp {w : World} {base : Nat} {v : Value} {l : List Int} (h : OwnI w base v l) : ∃ a n c,v = .slice a n c:=by
 obtain ⟨a,c,e,_⟩:=h.is
 exact ⟨a,_,c,e⟩
theorem Met.mid {win w w2 : World} {gb lb mb mm : Nat} {g : Img} {lv : Value} {L : List Int} (h : Met win w gb lb mb mm g lv L) (hg : w.grownBy w2 (some mm)) : At w2 lb #[lv] 40∧OwnI w2 win.heap.size lv L∧win.heap.size ≤ w2.heap.size:=by
 obtain ⟨n1,n2,n3,n4⟩:=h.lv_ne
 refine ⟨?_,h.own.of_block fun k hk hlt => hg.block k hlt (fun e => n4 (by rw [hk,e])),Nat.le_trans h.bel.size hg.size⟩
 have:=h.l
 unfold At at this ⊢
 rw [hg.block lb h.l.lt (fun e => ownsMap_ne h.map h.l (by simpa using e))]; exact this

set_option maxHeartbeats 4000000 in
set_option maxRecDepth 100000 in
theorem come_some {win w : World} {gb lb mb mm : Nat} {g : Img} {lv : Value} {L ts : List Int} {b off cap : Nat} (hM : Met win w gb lb mb mm g lv L) (hL : Nd g.ts.length 0 L) (hn : g.ts.length ≤ 1000)
  (hI : Is w (.slice (some ⟨b,off,none⟩) ts.length cap) ts) (hS : Sep w (.slice (some ⟨b,off,none⟩) ts.length cap) mm lb lv) (hW : ∀ t ∈ ts,Wf t) :
  Calls Tryd.prog 52 #[.slice (some ⟨b,off,none⟩) ts.length cap,.pointer (some ⟨mb,0,none⟩),.pointer (some ⟨gb,0,none⟩),.pointer (some ⟨lb,0,none⟩)] w fun e w' =>
   e = .returned (.tuple #[])∧∃ lv',Met win w' gb lb mb mm g lv' (comeL g.ts.length L ts):=by
 have htl:=hI.len
 rw [i64s_length] at htl
 unfold maxLen at htl
 have HM : Hid (Met win w gb lb mb mm g lv L):=hM
 have HI : Hid (Is w (.slice (some ⟨b,off,none⟩) ts.length cap) ts):=hI
 have HS : Hid (Sep w (.slice (some ⟨b,off,none⟩) ts.length cap) mm lb lv):=hS
 have HL : Hid (Nd g.ts.length 0 L):=hL
 have HW : Hid (∀ t ∈ ts,Wf t):=hW
 obtain ⟨n,hnn⟩ : ∃ n,n = g.ts.length:=⟨_,rfl⟩
 have HN : Hid (n = g.ts.length):=hnn
 clear hM hI hS hL hW hnn
 go_enter Tryd.func52,Tryd.ntmps52
 go_wp2_with fail
 go_loopw [6,7,8,11] (fun _ _ _ z wr => ∃ q : Nat,q ≤ ts.length∧z = .int .i64 q∧∃ lv',Hid (Met win wr gb lb mb mm g lv' (comeL g.ts.length L (ts.take q))∧Is wr (.slice (some ⟨b,off,none⟩) ts.length cap) ts∧Sep wr (.slice (some ⟨b,off,none⟩) ts.length cap) mm lb lv')) (fun _ _ _ z _ => ts.length - (intOf z).toNat)
 case atStart => exact ⟨0,Nat.zero_le _,rfl,lv,HM.out,HI.out,HS.out⟩
 case round =>
  obtain ⟨q,hq,rfl,lv',HR⟩:=hrel
  by_cases hql : q < ts.length
  ·obtain ⟨L',hL'⟩ : ∃ X,X = comeL g.ts.length L (ts.take q):=⟨_,rfl⟩
   rw [← hL'] at HR
   have HST : Hid (comeL g.ts.length L (ts.take (q + 1)) = stepC g.ts.length L' ts[q]):=by show _ = _; rw [hL']; exact comeL_take hql
   have HLl : Hid (L'.length ≤ 1000):=by
    show _ ≤ _
    have:=(HL.out.come (ts:=ts.take q)).len
    rw [← hL'] at this; omega
   have HWt : Hid (Wf ts[q]):=HW.out _ (List.getElem_mem hql)
   clear hL'
   obtain ⟨b',off',hbo,hb,_,h6,h7,hc⟩:=HR.out.2.1.at hql
   cases hbo
   have cq:=hc q hql
   generalize ts[q] = t at *
   unfold maxLen at h7
   have hM:=HR.out.1
   have cm:=hM.m.cell0
   have hmap:=hM.map
   have hkey:=key11 HWt.out
   obtain ⟨wA,hwA⟩ : ∃ W,W = wr.alloc (.cells #[] 71):=⟨_,rfl⟩
   have HWA : Hid (wA = _):=hwA
   have hbA : Below wr.heap.size wr wA:=by rw [hwA]; exact made_below _ _ _
   have hMA:=hM.later hbA
   have HRA : Hid (Met win wA gb lb mb mm g lv' L'∧Is wA (.slice (some ⟨b,off,none⟩) ts.length cap) ts∧Sep wA (.slice (some ⟨b,off,none⟩) ts.length cap) mm lb lv'):=⟨hMA,Sl.later HR.out.2.1 hbA,HR.out.2.2.later hbA⟩
   clear hc hM hwA hbA
   cases hhc : L'.contains t with
   | true =>
    have hhas : Maps.has (metD L') (.int .i64 t) = true:=by rw [has_met]; exact hhc
    have HS2 : Hid (comeL g.ts.length L (ts.take (q + 1)) = L'):=by show _ = _; rw [HST.out,stepC_old hhc]
    clear hhc hMA
    go_wp2_with (first | (at_lookup; go_must (refine wpList_lookup_own_unit _ rfl _ _ 70 rfl 3 71 law11 Tryd.underlying70 (zero11 _) mm _ _ rfl hmap _ _ rfl hkey ?_)) | (rw [← HWA.out]))
    go_roundw
    case rel => exact ⟨q + 1,by omega,by go_num,lv',by rw [HS2.out]; exact HRA.out⟩
    case measure => simp [intOf]; omega
   | false =>
    have hhas : Maps.has (metD L') (.int .i64 t) = false:=by rw [has_met]; exact hhc
    obtain ⟨cg0,cg1,cg2,cg3⟩:=hMA.gbox.cells
    have HTh : Hid (Calls Tryd.prog 47 #[.agg (imC g),.int .i64 t] wA fun e w' => e = .returned (.bool (numB t g.ts.length))∧Below wA.heap.size wA w'):=isThere_any t hMA.gbox.im
    have HHc : Hid (L'.contains t = false):=hhc
    unfold imC at HTh
    clear hhc hMA
    go_wp2_with (first | (at_lookup; go_must (refine wpList_lookup_own_unit _ rfl _ _ 70 rfl 3 71 law11 Tryd.underlying70 (zero11 _) mm _ _ rfl hmap _ _ rfl hkey ?_)) | (rw [← HWA.out]))
    refine Calls.mono HTh.out ?_
    rintro e w1 ⟨rfl,hb1⟩
    have HR1 : Hid (Met win w1 gb lb mb mm g lv' L'∧Is w1 (.slice (some ⟨b,off,none⟩) ts.length cap) ts∧Sep w1 (.slice (some ⟨b,off,none⟩) ts.length cap) mm lb lv'):=⟨HRA.out.1.later hb1,Sl.later HRA.out.2.1 hb1,HRA.out.2.2.later hb1⟩
    clear hb1 cg0 cg1 cg2 cg3 HTh cm hmap cq HR
    cases hnb : numB t g.ts.length with
    | false =>
     have HS2 : Hid (comeL g.ts.length L (ts.take (q + 1)) = L'):=by show _ = _; rw [HST.out,stepC_out hnb]
     clear hnb
     go_wp2_with fail
     go_roundw
     case rel => exact ⟨q + 1,by omega,by go_num,lv',by rw [HS2.out]; exact HR1.out⟩
     case measure => simp [intOf]; omega
    | true =>
     have HS2 : Hid (comeL g.ts.length L (ts.take (q + 1)) = L' ++ [t]):=by show _ = _; rw [HST.out,stepC_new hnb HHc.out]
     have hM1:=HR1.out.1
     have hmap1:=hM1.map
     have cm1:=hM1.m.cell0
     have HMid : Hid (∀ w2,w1.grownBy w2 (some mm) → At w2 lb #[lv'] 40∧OwnI w2 win.heap.size lv' L'∧win.heap.size ≤ w2.heap.size):=fun w2 hg => hM1.mid hg
     clear hnb hM1
     go_wp2_with (first
      | (at_mapUpdate; go_must (refine wpList_mapUpdate_own _ rfl _ _ _ 70 rfl 3 71 law11 Tryd.underlying70 (unitElem (H:=Unit)) mm _ _ rfl hmap1 (by have:=HLl.out; unfold maxLen; omega) _ _ _ rfl rfl hkey (.agg []) [] unitElem_mk ?_; intro w2 hown2 hgrow2; have hmid2:=HMid.out w2 hgrow2; have cl2:=hmid2.1.cell0))
      | (at_builtin; go_must (refine wpList_append_int_at (v:=lv') rfl (.tmp 31) (.tmp 33) rfl win.heap.size rfl rfl (hmid2.2.1.later (made_below _ _ _)) (one_int w2 t _ rfl) (by have:=HLl.out; omega) (Nat.le_trans hmid2.2.2 (made_below _ _ _).size) ?_; intro v5 w5 ho5 hg5 hp5; obtain ⟨la5,ln5,lc5,hv5⟩:=ho5.shp; subst hv5; have hl5:=(hmid2.1.later (made_below _ _ _)).grownI (hmid2.2.1.later (made_below _ _ _)) (by decide) hg5; have cl5:=hl5.cell0; have ml5:=hl5.melt 0)))
     have hadd:=Met.add (o:=Obj.cells #[.int .i64 t] 3) HR1.out.1 HR1.out.2.1 HR1.out.2.2 hgrow2 hown2 rfl ho5 hg5 hp5 rfl
     have HAd : Hid _:=hadd
     clear hadd hmid2 cl2 hl5 cl5 ml5 hgrow2 hown2 ho5 hg5 hp5
     go_roundw
     case rel => exact ⟨q + 1,by omega,by go_num,_,by rw [HS2.out]; exact HAd.out⟩
     case measure => simp [intOf]; omega
  ·have HD : Hid (Met win wr gb lb mb mm g lv' (comeL g.ts.length L ts)):=by
    have:=HR.out.1
    rwa [comeL_done hql] at this
   go_wp2_with fail
   go_end0
   exact ⟨rfl,lv',HD.out⟩

theorem come_any {win w : World} {gb lb mb mm : Nat} {g : Img} {lv tv : Value} {L ts : List Int} (hM : Met win w gb lb mb mm g lv L) (hL : Nd g.ts.length 0 L) (hn : g.ts.length ≤ 1000)
  (hI : Is w tv ts) (hS : ts ≠ [] → Sep w tv mm lb lv) (hW : ∀ t ∈ ts,Wf t) :
  Calls Tryd.prog 52 #[tv,.pointer (some ⟨mb,0,none⟩),.pointer (some ⟨gb,0,none⟩),.pointer (some ⟨lb,0,none⟩)] w fun e w' =>
   e = .returned (.tuple #[])∧∃ lv',Met win w' gb lb mb mm g lv' (comeL g.ts.length L ts):=by
 by_cases hne : ts = []
 ·subst hne
  obtain ⟨a,c,rfl,_,_⟩:=hI.shape
  refine (come_none a c _ _ _ w).mono ?_
  rintro e w' ⟨rfl,rfl⟩
  exact ⟨rfl,lv,hM⟩
 ·obtain ⟨b,off,cap,rfl,h1,h2,hb,hc⟩:=hI.parts hne
  exact come_some hM hL hn hI (hS hne) hW
structure Steps (P : Program) (w : World) (f : FuncId) (bs cs : Array Value) (n : Nat) (st : Int → List Int) : Prop where
 enter : ∀ args W,(callFunc f args).run P W = .ok (.enter f args) W
 steps : ∀ W,Below w.heap.size w W → ∀ t,numB t n = true → Calls P f (bs.push (.int .i64 t) ++ cs) W fun e w' => ∃ v,e = .returned v∧Is w' v (st t)∧Below W.heap.size W w'∧(st t ≠ [] → ∀ k,v.ownBlock = some k → k < w.heap.size ∨ W.heap.size ≤ k)
 wf : ∀ t,numB t n = true → ∀ x ∈ st t,Wf x
theorem Steps.later {P : Program} {w w' : World} {f : FuncId} {bs cs : Array Value} {n : Nat} {st : Int → List Int} (h : Steps P w f bs cs n st) (hb : Below w.heap.size w w') : Steps P w' f bs cs n st :=
 ⟨h.enter,fun W hW t ht => (h.steps W (bstep hb hW) t ht).mono fun e w2 ⟨v,h1,h2,h3,h4⟩ => ⟨v,h1,h2,h3,fun hne k hk => (h4 hne k hk).imp (fun h => Nat.lt_of_lt_of_le h hb.size) id⟩,h.wf⟩

theorem Met.start {w W : World} {g : Img} (hg : Im w g) (hW : W = (((w.alloc (.cells (imC g) 26)).alloc (.cells #[.slice none 0 0] 40)).alloc (.map #[] 0)).alloc (.cells #[.map (some (w.heap.size + 1 + 1))] 70)) :
  Met w W w.heap.size (w.heap.size + 1) (w.heap.size + 1 + 1 + 1) (w.heap.size + 1 + 1) g (.slice none 0 0) []:=by
 subst hW
 have hb : Below w.heap.size w _:=bbox (bbox (bbox (made_below w (imC g) 26) (.cells #[.slice none 0 0] 40)) (.map #[] 0)) (.cells #[.map (some (w.heap.size + 1 + 1))] 70)
 refine ⟨hg,hb,(((At.made w _ _).next _).next _).next _, ?_, ?_,OwnI.nil _ _, ?_,by omega⟩
 ·have:=((At.made (w.alloc (.cells (imC g) 26)) #[.slice none 0 0] 40).next (.map #[] 0)).next (.cells #[.map (some (w.heap.size + 1 + 1))] 70)
  simpa using this
 ·have:=At.made (((w.alloc (.cells (imC g) 26)).alloc (.cells #[.slice none 0 0] 40)).alloc (.map #[] 0)) #[.map (some (w.heap.size + 1 + 1))] 70
  simpa using this
 ·have:=(World.ownsMap_made ((w.alloc (.cells (imC g) 26)).alloc (.cells #[.slice none 0 0] 40)) Tryd.prog 3 (unitElem (H:=Unit))).alloc (.cells #[.map (some (w.heap.size + 1 + 1))] 70)
  simpa [metD,setOf] using this
theorem Is.lt {w : World} {v : Value} {l : List Int} (h : Is w v l) (hne : l ≠ []) : ∀ k,v.ownBlock = some k → k < w.heap.size:=by
 obtain ⟨b,off,cap,rfl,_,_,hb,_⟩:=h.parts hne
 intro k hk
 simp [Value.ownBlock] at hk
 omega

set_option maxHeartbeats 4000000 in
set_option maxRecDepth 100000 in
theorem goOn_any {w : World} {g : Img} {tv : Value} {ts : List Int} {f : FuncId} {bs cs : Array Value} {st : Int → List Int} (hg : Im w g) (hn : g.ts.length ≤ 1000) (hI : Is w tv ts) (hb : ts ≠ [] → ∀ k,tv.ownBlock = some k → k < w.heap.size) (hW : ∀ t ∈ ts,Wf t)
  (hf : Steps Tryd.prog w f bs cs g.ts.length st) :
  Calls Tryd.prog 43 #[imV g,tv,.func (.func f) bs cs] w fun e w' => ∃ v,e = .returned v∧OwnI w' w.heap.size v (reachL g.ts.length st ts)∧Below w.heap.size w w':=by
 have hmm := @run_makeMap Tryd.prog
 have hen:=hf.enter
 have HF : Hid (Steps Tryd.prog w f bs cs g.ts.length st):=hf
 obtain ⟨W0,hW0⟩ : ∃ W,W = (((w.alloc (.cells (imC g) 26)).alloc (.cells #[.slice none 0 0] 40)).alloc (.map #[] 0)).alloc (.cells #[.map (some (w.heap.size + 1 + 1))] 70):=⟨_,rfl⟩
 have hM0:=Met.start hg hW0
 have HC0 : Hid (Calls Tryd.prog 52 #[tv,.pointer (some ⟨w.heap.size + 1 + 1 + 1,0,none⟩),.pointer (some ⟨w.heap.size,0,none⟩),.pointer (some ⟨w.heap.size + 1,0,none⟩)] W0 fun e w' =>
   e = .returned (.tuple #[])∧∃ lv',Met w w' w.heap.size (w.heap.size + 1) (w.heap.size + 1 + 1 + 1) (w.heap.size + 1 + 1) g lv' (comeL g.ts.length [] ts)) :=
  come_any hM0 (Nd.nil _) hn (Sl.later hI hM0.bel) (fun hne k hk => ⟨by have:=hb hne k hk; have:=hM0.bel.size; omega,by have:=hb hne k hk; omega,by have:=hb hne k hk; omega,by simp [Value.ownBlock]⟩) hW
 have HW0 : Hid (W0 = _):=hW0
 unfold imC at HW0
 clear hf hM0 hW0 hg hI hb hW
 unfold imV
 go_enter Tryd.func43,Tryd.ntmps43
 go_wp2_with fail
 rw [← HW0.out]
 refine Calls.mono HC0.out ?_
 rintro e w1 ⟨rfl,lv0,hM1⟩
 have HM1 : Hid (Met w w1 w.heap.size (w.heap.size + 1) (w.heap.size + 1 + 1 + 1) (w.heap.size + 1 + 1) g lv0 (comeL g.ts.length [] ts)):=hM1
 clear HC0 HW0 hM1 hmm
 go_wp2_with fail
 go_loopw [10] (fun z wr => ∃ q : Nat,z = .int .i64 q∧∃ lv L,q ≤ L.length∧Hid (Met w wr w.heap.size (w.heap.size + 1) (w.heap.size + 1 + 1 + 1) (w.heap.size + 1 + 1) g lv L)∧Hid (Nd g.ts.length 0 L)∧Hid (goL g.ts.length st (g.ts.length + 1 - q) q L = reachL g.ts.length st ts)) (fun z _ => g.ts.length + 1 - (intOf z).toNat)
 case atStart => exact ⟨0,rfl,lv0,_,Nat.zero_le _,HM1.out,(Nd.nil _).come,rfl⟩
 case round =>
  obtain ⟨q,rfl,lv,L,hq,HM,HL,HG⟩:=hrel
  have hLl:=HL.out.len
  have hM:=HM.out
  by_cases hql : q < L.length
  ·obtain ⟨gl,capl,hlv,p1,p2,p3,p4,p5⟩:=hM.own.parts (by intro e; rw [e] at hql; simp at hql)
   have cl:=hM.l.cell0
   have cq:=p5 q hql
   unfold maxLen at p2
   have hnum:=HL.out.1 _ (List.getElem_mem hql)
   have HG2 : Hid (goL g.ts.length st (g.ts.length + 1 - (q + 1)) (q + 1) (comeL g.ts.length L (st L[q])) = reachL g.ts.length st ts):=by
    show _ = _
    rw [← HG.out,show g.ts.length + 1 - q = (g.ts.length + 1 - (q + 1)) + 1 by omega,goL_next hql]
   have HSt:=HF.out.steps wr hM.bel L[q] hnum
   have HWf : Hid (∀ x ∈ st L[q],Wf x):=HF.out.wf _ hnum
   generalize L[q] = t at *
   subst hlv
   have HStc : Hid _:=HSt
   clear hM p5 HSt hnum HG
   go_wp2_with fail
   refine Calls.mono HStc.out ?_
   rintro e w2 ⟨v,rfl,hv,hb2,hk⟩
   have HCm : Hid (Calls Tryd.prog 52 #[v,.pointer (some ⟨w.heap.size + 1 + 1 + 1,0,none⟩),.pointer (some ⟨w.heap.size,0,none⟩),.pointer (some ⟨w.heap.size + 1,0,none⟩)] w2 fun e w' =>
     e = .returned (.tuple #[])∧∃ lv',Met w w' w.heap.size (w.heap.size + 1) (w.heap.size + 1 + 1 + 1) (w.heap.size + 1 + 1) g lv' (comeL g.ts.length L (st t))):=by
    have hMr:=HM.out
    have h1:=hMr.map.lt
    have h2:=hMr.l.lt
    refine come_any (hMr.later hb2) HL.out hn hv (fun hne k hk2 => ?_) HWf.out
    have h3:=hk hne k hk2
    refine ⟨hv.lt hne k hk2,by omega,by omega,fun e => ?_⟩
    have h4:=hMr.own.block k e
    omega
   clear hv hb2 hk HStc cl cq
   go_wp2_with fail
   refine Calls.mono HCm.out ?_
   rintro e w3 ⟨rfl,lv3,hM3⟩
   have HM3 : Hid (Met w w3 w.heap.size (w.heap.size + 1) (w.heap.size + 1 + 1 + 1) (w.heap.size + 1 + 1) g lv3 (comeL g.ts.length L (st t))):=hM3
   clear HCm hM3
   go_wp2_with fail
   go_roundw
   case rel => exact ⟨q + 1,by go_num,lv3,_,by have:=(comeL_pre g.ts.length (st t) L).length_le; omega,HM3.out,HL.out.come,HG2.out⟩
   case measure => simp [intOf]; omega
  ·obtain ⟨la,lc,hlv,_,_⟩:=(show Is wr lv L from hM.own.is).shape
   have HE : Hid (L = reachL g.ts.length st ts):=by
    show _ = _
    rw [← HG.out,goL_end hql]
   have cl:=hM.l.cell0
   subst hlv
   clear hM
   go_wp2_with fail
   go_ret
   exact ⟨_,rfl,by rw [← HE.out]; exact HM.out.own,HM.out.bel⟩
end Go.Proofs.YtapocgcdjkbnhaaDoor
