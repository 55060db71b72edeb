/- Texts joined: Contains9, All9, Ints7, Kind11, Has11, Keep10. -/
import Derived.Test.YtapocgcdjkbnhaaDoorQ05
import Derived.Test.YtapocgcdjkbnhaaDoorQ01
import Derived.Test.YtapocgcdjkbnhaaDoorQ04
namespace Go.Proofs.YtapocgcdjkbnhaaDoor
set_option linter.unusedVariables false
set_option linter.unusedSimpArgs false
open Go.RowKit
attribute [local go_sem ↓] Go.wp_at_zero Go.wp_at_succ
theorem run_enter9 {P : Program} {f : FuncId} {fn : Func} {c : Code} (hf : P.funcs[f]? = some fn) (hname : (fn.name == "runtime.NumGoroutine") = false) (hb : fn.body = some c) (args : Array Value) (w : World) :
  (callFunc f args).run P w = .ok (.enter f args) w:=by
 have h1 : ¬ fn.name = "runtime.NumGoroutine" := by simpa using hname
 simp [callFunc,hf,h1,hb]

theorem any_take9 {α : Type} {p : α → Bool} {l : List α} {q : Nat} (hq : q < l.length) (h : (l.take q).any p = false) (hx : p l[q] = false) : (l.take (q + 1)).any p = false:=by
 rw [List.take_succ_eq_append_getElem hq,List.any_append,h]
 simpa using hx

structure Tells {α : Type} (P : Program) (V : α → Value) (w : World) (f : FuncId) (bs cs : Array Value) (p : α → Bool) (l : List α) : Prop where
 enter : ∀ args W,(callFunc f args).run P W = .ok (.enter f args) W
 tells : ∀ W,Below w.heap.size w W → ∀ x ∈ l,Calls P f (bs.push (V x) ++ cs) W fun e w' => e = .returned (.bool (p x))∧Below W.heap.size W w'
theorem Tells.later {α : Type} {P : Program} {V : α → Value} {w w' : World} {f : FuncId} {bs cs : Array Value} {p : α → Bool} {l : List α} (h : Tells P V w f bs cs p l) (hb : Below w.heap.size w w') : Tells P V w' f bs cs p l :=
 ⟨h.enter,fun W hW x hx => h.tells W (bstep hb hW) x hx⟩
theorem At.cell0 {w : World} {g : Nat} {v : Value} {t : TypeId} (h : At w g #[v] t) : w.cell? ⟨g,0,none⟩ = some v:=h.cell 0
theorem made_below (w : World) (C : Array Value) (t : TypeId) : Below w.heap.size w (w.alloc (.cells C t)):=(Below.refl _ _).alloc (Nat.le_refl _) _
end Go.Proofs.YtapocgcdjkbnhaaDoor

namespace Go.Proofs.YtapocgcdjkbnhaaDoor
set_option linter.unusedVariables false
set_option linter.unusedSimpArgs false
open Go.RowKit
def OwnI (w : World) (base : Nat) (v : Value) (l : List Int) : Prop:=OwnV w base 3 v (i64s l)
theorem i64s_append (a b : List Int) : i64s (a ++ b) = i64s a ++ i64s b:=by simp [i64s]
theorem OwnI.is {w : World} {base : Nat} {v : Value} {l : List Int} (h : OwnI w base v l) : Is w v l:=OwnV.sl h
theorem OwnI.later {w w' : World} {base : Nat} {v : Value} {l : List Int} (h : OwnI w base v l) (hb : Below w.heap.size w w') : OwnI w' base v l:=OwnV.later h hb
theorem OwnI.of_block {w w' : World} {base : Nat} {v : Value} {l : List Int} (h : OwnI w base v l) (hb : ∀ k,v.ownBlock = some k → k < w.heap.size → w'.heap[k]? = w.heap[k]?) : OwnI w' base v l:=OwnV.of_block h hb
theorem OwnI.block {w : World} {base : Nat} {v : Value} {l : List Int} (h : OwnI w base v l) : ∀ k,v.ownBlock = some k → base ≤ k∧k < w.heap.size:=OwnV.block h
theorem OwnI.nil (w : World) (base : Nat) : OwnI w base (.slice none 0 0) []:=OwnV.nil w base 3
theorem OwnI.typed {w : World} {base : Nat} {v : Value} {l : List Int} (h : OwnI w base v l) : ∀ k,v.ownBlock = some k → ∃ C,At w k C 3:=OwnV.typed h
theorem OwnI.ne {w : World} {base g : Nat} {v : Value} {l : List Int} {C : Array Value} {t : TypeId} (ho : OwnI w base v l) (h : At w g C t) (ht : t ≠ 3) : v.ownBlock ≠ some g:=by
 intro e
 obtain ⟨C',hC⟩:=ho.typed g e
 unfold At at h hC
 rw [h] at hC
 simp only [Option.some.injEq,Obj.cells.injEq] at hC
 exact ht hC.2.1
theorem At.grownI {w w' : World} {g base : Nat} {C : Array Value} {t : TypeId} {v : Value} {l : List Int} (h : At w g C t) (ho : OwnI w base v l) (ht : t ≠ 3) (hg : w.grownBy w' v.ownBlock) : At w' g C t:=by
 have hl:=h.lt
 have hne:=ho.ne h ht
 unfold At at h ⊢
 rw [hg.block g hl (fun e => hne e.symm)]; exact h
theorem OwnI.parts {w : World} {base : Nat} {v : Value} {l : List Int} (h : OwnI w base v l) (hne : l ≠ []) : ∃ g cap,v = .slice (some ⟨g,0,none⟩) l.length cap∧l.length ≤ cap∧cap ≤ maxLen∧base ≤ g∧g < w.heap.size∧∀ i (hi : i < l.length),w.cell? ⟨g,i,none⟩ = some (.int .i64 l[i]):=by
 have hs:=OwnV.sl h
 rcases h.2 with ⟨rfl,h0⟩ | ⟨g,cap,cur,rfl,hg,hh,hn,hm,r⟩
 ·rw [i64s_length] at h0
  exact absurd (List.eq_nil_of_length_eq_zero h0) hne
 ·obtain ⟨a,c,e,_,_,h3⟩:=hs
  obtain ⟨b,off,ea,hb,hc⟩:=h3 (by simpa [i64s] using hne)
  cases e
  cases ea
  rw [i64s_length] at hn ⊢
  refine ⟨g,cap,rfl,hn,hm,hg,hb,fun i hi => ?_⟩
  have:=hc i (by rw [i64s_length]; exact hi)
  rw [Nat.zero_add] at this
  rw [this]; simp [i64s]

theorem Tryd.infoInt7 : (Tryd.prog.info? 3).map (fun i => (i.zero,i.size,i.bytes)) = some (some (.int .i64 0),1,8):=by kernel_rfl

theorem run_append_keep {P : Program} (w : World) (base : Nat) (t tx ty e : TypeId) (i : TypeInfo) (z : Value) (ht : P.underlying t = some (.slice e)) (hi : P.info? e = some i) (hz : i.zero = some z) (hs1 : i.size = 1) (hzs : z.cells.size = 1)
  {v y : Value} {xs news : List Value} {n : Nat} (hv : OwnV w base e v xs) (hs : Src P 1 tx y n news w) (h63 : xs.length + n ≤ maxLen) (hbytes : ((xs.length + n) + (xs.length + n) / 4 + 192) * i.bytes ≤ 281474976710656) (hbase : base ≤ w.heap.size) :
  ∃ v' w',(Builtin.append_ #[t,tx] ty #[v,y]).run P w = .ok v' w'∧OwnV w' base e v' (xs ++ news)∧w.grownBy w' v.ownBlock∧(v'.ownBlock = v.ownBlock ∨ v'.ownBlock = some w.heap.size)∧(∀ g,v.ownBlock = some g → ∀ j,j < xs.length → w'.cell? ⟨g,j,none⟩ = w.cell? ⟨g,j,none⟩):=by
 obtain ⟨v',w',hr,ho,hg,hp,_⟩:=run_append_at (P:=P) w base t tx ty e i z ht hi hz hs1 hzs hv hs h63 hbytes hbase
 refine ⟨v',w',hr,ho,hg,hp,fun g hvg j hj => ?_⟩
 rcases hv.2 with ⟨rfl,h0⟩ | ⟨g',cap,cur,rfl,hbg,hgg,hnc,hcm,hcs,htake⟩
 ·simp [Value.ownBlock] at hvg
 ·have e1 : g' = g:=by simpa [Value.ownBlock] using hvg
  subst e1
  have hnl : news.length = n:=by have:=hs.newsLen; omega
  have hadd : (⟨g',0,none⟩ : Addr).add j = ⟨g',j,none⟩:=by unfold Addr.add; split <;> simp_all
  have hc0:=World.ownsRow.cells (w:=w) (base:=base) (e:=e) (size := 1) (v := .slice (some ⟨g',0,none⟩) xs.length cap) (n:=xs.length) (xs:=xs) hv (g:=g') rfl j xs[j] (List.getElem?_eq_getElem hj)
  by_cases hroom : xs.length + n ≤ cap
  ·have hfit : xs.length * i.size + news.length ≤ cur.size:=by rw [hs1,hcs,hnl]; omega
   have hst:=run_storeCells_at P g' (xs.length * i.size) e news 0 cur w hgg (by simpa using hfit) hs.one
   simp only [Nat.add_zero] at hst
   have hr' : (Builtin.append_ #[t,tx] ty #[.slice (some ⟨g',0,none⟩) xs.length cap,y]).run P w = .ok (.slice (some ⟨g',0,none⟩) (xs.length + n) cap) (w.setRow g' (cur.toList.take (xs.length * i.size) ++ news ++ cur.toList.drop (xs.length * i.size + news.length)).toArray):=by
    have hc:=hs.cells
    rw [hs1] at hst ⊢
    simp only [Nat.mul_one] at hst ⊢
    rcases hs.kind with ⟨e',hk⟩ | hk <;> simp [Builtin.append_,run_underlying ht,run_underlying hk,sizeOf,typeInfo,hi,hs1,hs.len,hc,hroom,Addr.add_lit,hst]
   rw [hr'] at hr
   simp only [Result.ok.injEq] at hr
   obtain ⟨hr1,hr2⟩:=hr
   subst hr1
   have hc1:=World.ownsRow.cells (w:=w') (base:=base) (e:=e) (size := 1) (n:=(xs ++ news).length) (xs:=xs ++ news) ho (g:=g') rfl j xs[j] (by rw [List.getElem?_append_left hj]; exact List.getElem?_eq_getElem hj)
   rw [hadd] at hc0 hc1
   rw [hc1,hc0]
  ·have hold : (Builtin.firstCells i.size xs.length (.slice (some ⟨g',0,none⟩) xs.length cap)).run P w.drew = .ok xs.toArray w.drew:=by
    rw [hs1]
    refine run_firstCells_some w.drew 1 xs.length ⟨g',0,none⟩ xs.length cap xs (by omega) ?_
    intro j u hj
    exact World.ownsRow.cells (w:=w.drew) (base:=base) (e:=e) (size := 1) (v := .slice (some ⟨g',0,none⟩) xs.length cap) (n:=xs.length) (xs:=xs) hv (g:=g') rfl j u hj
   have h63i : ((xs.length + n : Nat) : Int) ≤ 9223372036854775807:=by simp only [maxLen] at h63; omega
   have hr':=run_append_grow_src (P:=P) w t tx ty e i z ht hi hz (some ⟨g',0,none⟩) xs.length cap xs hold y n news (by rw [hs1]; exact hs) (by omega) h63i (growslice_fits_wide (by omega) hbytes)
   rw [hr'] at hr
   simp only [Result.ok.injEq] at hr
   obtain ⟨hr1,hr2⟩:=hr
   subst hr2
   have hlt:=(Array.getElem?_eq_some_iff.1 hgg).1
   exact World.cell?_of_block (heap_alloc_old w.drew _ hlt)

theorem wpList_append_int {ops : Array Oper} {Q : Exit → Act → World → Prop} {a : Act} {w : World} {rest : List Oper} {o : Oper} (hw : Region.wanted o (yielded ops a.tmps) = true) (s x : Operand)
  (ho : o.op = .call { callee := .builtin .append,args:=#[s,x],argTypes:=#[40,40] }) (base : Nat)
  {v y : Value} {l : List Int} {n : Int} (hs : a.eval s = v) (hx : a.eval x = y) (hv : OwnI w base v l) (hy : Src Tryd.prog 1 40 y 1 [.int .i64 n] w) (hl : l.length ≤ 100000) (hbase : base ≤ w.heap.size)
  (h : ∀ v' w',OwnI w' base v' (l ++ [n]) → w.grownBy w' v.ownBlock → wpList Tryd.prog ops Q rest (a.put o.dst v') w') : wpList Tryd.prog ops Q (o :: rest) a w:=by
 refine wpList_want hw fun K hK => ?_
 obtain ⟨i,hi,hz0,hz1,hz2⟩:=info_parts Tryd.infoInt7
 obtain ⟨v',w',hr,h2,h3,h4,h5⟩:=run_append_keep (P:=Tryd.prog) w base 40 40 o.type 3 i _ Tryd.underlying40 hi hz0 hz1 rfl hv hy (by rw [i64s_length]; unfold maxLen; omega) (by rw [i64s_length,hz2]; omega) hbase
 unfold Oper.wp execOp
 simp only [ho,resolve,invoke,builtin,Sem.run_bind,Sem.run_pure,Result.andThen_ok,List.map_toArray,List.map_cons,List.map_nil,hs,hx,hr]
 refine hK _ _ (h v' w' ?_ h3)
 unfold OwnI
 rw [i64s_append]
 exact h2

theorem one_int (w : World) (n : Int) (g : Nat) (hg : g = w.heap.size) : Src Tryd.prog 1 40 (.slice (some ⟨g,0,none⟩) 1 1) 1 [.int .i64 n] (w.alloc (Obj.cells #[.int .i64 n] 3)) :=
 one_src0 Tryd.underlying40 w (.int .i64 n) 3 g hg rfl
end Go.Proofs.YtapocgcdjkbnhaaDoor

namespace Go.Proofs.YtapocgcdjkbnhaaDoor
set_option linter.unusedVariables false
set_option linter.unusedSimpArgs false
open Go.RowKit
attribute [local go_sem ↓] Go.wp_at_zero Go.wp_at_succ
def imC (g : Img) : Array Value:=#[.slice g.ta g.ts.length g.tc,.slice g.fa g.fs.length g.fc,.slice g.ma g.ms.length g.mc,.int .i64 g.en]
structure GB (w : World) (b : Nat) (g : Img) : Prop where
 box : At w b (imC g) 26
 im : Im w g
theorem GB.later {w w' : World} {b : Nat} {g : Img} (h : GB w b g) (hb : Below w.heap.size w w') : GB w' b g:=⟨h.box.later hb,h.im.later hb⟩
theorem GB.cells {w : World} {b : Nat} {g : Img} (h : GB w b g) : w.cell? ⟨b,0,none⟩ = some (.slice g.ta g.ts.length g.tc)∧w.cell? ⟨b,1,none⟩ = some (.slice g.fa g.fs.length g.fc)∧w.cell? ⟨b,2,none⟩ = some (.slice g.ma g.ms.length g.mc)∧w.cell? ⟨b,3,none⟩ = some (.int .i64 g.en) :=
 ⟨h.box.cell 0,h.box.cell 1,h.box.cell 2,h.box.cell 3⟩
theorem GB.made {w w0 : World} {g : Img} (hg : Im w g) (h : w0 = w.alloc (.cells (imC g) 26)) : Below w.heap.size w w0∧GB w0 w.heap.size g:=by
 subst h
 exact ⟨made_below _ _ _,At.made _ _ _,hg.later (made_below _ _ _)⟩
theorem GB.type {w : World} {b : Nat} {g : Img} (h : GB w b g) {q : Nat} (hq : q < g.ts.length) : ∃ tb off,g.ta = some ⟨tb,off,none⟩∧tb < w.heap.size∧g.ts.length ≤ g.tc∧g.tc ≤ maxLen ∧
  w.cell? ⟨tb,off + q * 4,none⟩ = some (.string g.ts[q].nm)∧w.cell? ⟨tb,off + q * 4 + 1,none⟩ = some (.int .i64 g.ts[q].fl)∧w.cell? ⟨tb,off + q * 4 + 2,none⟩ = some (.int .i64 g.ts[q].ex)∧w.cell? ⟨tb,off + q * 4 + 3,none⟩ = some (.slice g.ts[q].fa g.ts[q].fs.length g.ts[q].fc):=by
 obtain ⟨tb,off,cap,hv,h1,h2,hb,hc⟩:=h.im.ts.parts (by intro e; rw [e] at hq; simp at hq)
 simp only [Value.slice.injEq] at hv
 obtain ⟨ha,_,hcap⟩:=hv
 subst hcap
 exact ⟨tb,off,ha,hb,h1,h2,(show El tdE w tb (off + q * 4) g.ts[q] from hc q hq).cells_T⟩

set_option maxHeartbeats 1000000 in
theorem isThere_any {g : Img} (t : Int) {w : World} (hg : Im w g) :
  Calls Tryd.prog 47 #[imV g,.int .i64 t] w fun e w' => e = .returned (.bool (numB t g.ts.length))∧Below w.heap.size w w':=by
 obtain ⟨w0,hw0⟩ : ∃ W,W = w.alloc (.cells (imC g) 26):=⟨_,rfl⟩
 have HW0 : Hid (w0 = _):=hw0
 obtain ⟨hb0,hgb⟩:=GB.made hg hw0
 have HB0 : Hid (Below w.heap.size w w0):=hb0
 obtain ⟨c0,c1,c2,c3⟩:=hgb.cells
 have htl:=hg.ts.len
 unfold maxLen at htl
 unfold imC at HW0
 clear hw0 hb0 hgb hg
 unfold imV
 go_enter Tryd.func47,Tryd.ntmps47
 go_wp2_with (rw [← HW0.out])
 all_goals go_ret
 all_goals refine ⟨ret_bool ?_,HB0.out⟩
 all_goals (unfold numB; rw [Bool.eq_iff_iff]; simp; try omega)

set_option maxHeartbeats 1000000 in
theorem refThere_any {g : Img} (t : Int) {w : World} (hg : Im w g) :
  Calls Tryd.prog 9 #[imV g,.int .i64 t] w fun e w' => e = .returned (.bool (numB t g.ts.length))∧Below w.heap.size w w':=by
 obtain ⟨w0,hw0⟩ : ∃ W,W = w.alloc (.cells (imC g) 26):=⟨_,rfl⟩
 have HW0 : Hid (w0 = _):=hw0
 obtain ⟨hb0,hgb⟩:=GB.made hg hw0
 have HB0 : Hid (Below w.heap.size w w0):=hb0
 obtain ⟨c0,c1,c2,c3⟩:=hgb.cells
 have htl:=hg.ts.len
 unfold maxLen at htl
 unfold imC at HW0
 clear hw0 hb0 hgb hg
 unfold imV
 go_enter Tryd.func9,Tryd.ntmps9
 go_wp2_with (rw [← HW0.out])
 all_goals go_ret
 all_goals refine ⟨ret_bool ?_,HB0.out⟩
 all_goals (unfold numB; rw [Bool.eq_iff_iff]; simp; try omega)

theorem and_flag : ∀ f : Fin 32,(bits .and .i64 (f.val : Int) 2 = if bitB (f.val : Int) 2 = true then 2 else 0)∧(bits .and .i64 (f.val : Int) 1 = if bitB (f.val : Int) 1 = true then 1 else 0)∧(bits .and .i64 (f.val : Int) 16 = if bitB (f.val : Int) 16 = true then 16 else 0)∧(bits .and .i64 (f.val : Int) 8 = if bitB (f.val : Int) 8 = true then 8 else 0):=by decide +kernel
theorem and_flags {f : Int} (h : 0 ≤ f∧f ≤ 31) : (bits .and .i64 f 2 = if bitB f 2 = true then 2 else 0)∧(bits .and .i64 f 1 = if bitB f 1 = true then 1 else 0)∧(bits .and .i64 f 16 = if bitB f 16 = true then 16 else 0)∧(bits .and .i64 f 8 = if bitB f 8 = true then 8 else 0):=by
 have:=and_flag ⟨f.toNat,by omega⟩
 rwa [show ((f.toNat : Nat) : Int) = f by omega] at this
theorem quo_flag {f : Int} (h : 0 ≤ f∧f ≤ 31) {k : Nat} (hk : 1 ≤ k) : (f / (k : Int)).tmod 2 = (if bitB f k = true then 1 else 0):=by
 obtain ⟨n,rfl⟩ : ∃ n : Nat,f = n:=⟨f.toNat,by omega⟩
 have hd : (n : Int) / (k : Int) = ((n / k : Nat) : Int):=rfl
 rw [hd]
 have hm : ((n / k : Nat) : Int).tmod 2 = ((n / k % 2 : Nat) : Int):=rfl
 rw [hm]
 unfold bitB
 rw [Int.toNat_natCast]
 have h2 : n / k % 2 = 0 ∨ n / k % 2 = 1:=by omega
 rcases h2 with h2 | h2 <;> rw [h2] <;> rfl

set_option maxHeartbeats 1000000 in
theorem refBit_any {f : Int} (h : 0 ≤ f∧f ≤ 31) {k : Nat} (hk : 1 ≤ k∧k ≤ 16) (w : World) :
  Calls Tryd.prog 21 #[.int .i64 f,.int .i64 (k : Int)] w fun e w' => e = .returned (.bool (bitB f k))∧w' = w:=by
 have HQ : Hid ((f / (k : Int)).tmod 2 = (if bitB f k = true then 1 else 0)):=quo_flag h hk.1
 have hk0 : ¬ (k : Int) = 0:=by omega
 have hk1 : ((k : Int) == 0) = false:=by simp; omega
 go_enter Tryd.func21,Tryd.ntmps21
 go_wp2
 go_ret
 refine ⟨ret_bool ?_,rfl⟩
 rw [HQ.out]
 cases bitB f k <;> rfl

theorem num_nat {t : Int} {n : Nat} (h : numB t n = true) : ∃ q : Nat,t = (q : Int)∧q < n:=by
 rw [numB_iff] at h
 exact ⟨t.toNat,by omega,by omega⟩
def FlOk (g : Img) : Prop := ∀ x ∈ g.ts,0 ≤ x.fl∧x.fl ≤ 31
theorem FlOk.of {g : Img} (h : imB g = true) : FlOk g:=by
 intro x hx
 unfold imB at h
 simp only [Bool.and_eq_true] at h
 have:=List.all_eq_true.1 h.1.1.1.2 x hx
 unfold tdB witB at this
 simp only [Bool.and_eq_true,decide_eq_true_iff] at this
 omega
theorem knd_at {g : Img} {q : Nat} (hq : q < g.ts.length) : kndI g (q : Int) = kindF g.ts[q].fl:=by
 unfold kndI
 rw [if_pos (by rw [numB_iff]; omega),flI_at hq]

set_option maxHeartbeats 2000000 in
theorem kind_any {g : Img} (t : Int) {w : World} (hg : Im w g) (hf : FlOk g) :
  Calls Tryd.prog 30 #[imV g,.int .i64 t] w fun e w' => e = .returned (.int .i64 (kndI g t))∧Below w.heap.size w w':=by
 obtain ⟨w0,hw0⟩ : ∃ W,W = w.alloc (.cells (imC g) 26):=⟨_,rfl⟩
 have HW0 : Hid (w0 = _):=hw0
 obtain ⟨hb0,hgb⟩:=GB.made hg hw0
 have HB0 : Hid (Below w.heap.size w w0):=hb0
 have HG : Hid (∀ W,Below w0.heap.size w0 W → GB W w.heap.size g):=fun W hW => hgb.later hW
 obtain ⟨c0,c1,c2,c3⟩:=hgb.cells
 have htl:=hg.ts.len
 unfold maxLen at htl
 have HTh : Hid (Calls Tryd.prog 47 #[.agg (imC g),.int .i64 t] w0 fun e w' => e = .returned (.bool (numB t g.ts.length))∧Below w0.heap.size w0 w'):=isThere_any t hgb.im
 unfold imC at HW0 HTh
 clear hw0 hb0 hgb hg
 unfold imV
 go_enter Tryd.func30,Tryd.ntmps30
 go_wp2_with (rw [← HW0.out])
 refine Calls.mono HTh.out ?_
 rintro e w1 ⟨rfl,hb1⟩
 have HB1 : Hid (Below w.heap.size w w1):=bstep HB0.out hb1
 have hG1:=HG.out w1 hb1
 clear c0 c1 c2 c3 hb1 HTh
 cases hn : numB t g.ts.length with
 | false =>
  have HK : Hid (kndI g t = -1):=by show _ = _; unfold kndI; rw [hn]; rfl
  go_wp2_with fail
  go_ret
  exact ⟨ret_int HK.out.symm,HB1.out⟩
 | true =>
  obtain ⟨q,rfl,hq⟩:=num_nat hn
  obtain ⟨tb,off,hta,htb,h1,h2,k0,k1,k2,k3⟩:=hG1.type hq
  obtain ⟨c0,c1,c2,c3⟩:=hG1.cells
  have HK : Hid (kndI g (q : Int) = kindF g.ts[q].fl):=knd_at hq
  obtain ⟨a2,a1,a16,_⟩:=and_flags (hf _ (List.getElem_mem hq))
  unfold maxLen at h2
  rw [hta] at c0
  clear hta hG1 hf hn
  generalize g.ts[q].fl = f at *
  cases hb2 : bitB f 2 with
  | true =>
   rw [hb2,if_pos rfl] at a2
   have HR : Hid (kindF f = 2):=by show _ = _; unfold kindF; rw [if_pos hb2]
   clear hb2
   go_wp2_with fail
   go_ret
   exact ⟨ret_int (by rw [HK.out,HR.out]),HB1.out⟩
  | false =>
   rw [hb2,if_neg (by decide)] at a2
   cases hb1 : bitB f 1 with
   | true =>
    rw [hb1,if_pos rfl] at a1
    have HR : Hid (kindF f = 1):=by show _ = _; unfold kindF; rw [if_neg (by rw [hb2]; decide),if_pos hb1]
    clear hb2 hb1
    go_wp2_with fail
    go_ret
    exact ⟨ret_int (by rw [HK.out,HR.out]),HB1.out⟩
   | false =>
    rw [hb1,if_neg (by decide)] at a1
    cases hb16 : bitB f 16 with
    | true =>
     rw [hb16,if_pos rfl] at a16
     have HR : Hid (kindF f = 3):=by show _ = _; unfold kindF; rw [if_neg (by rw [hb2]; decide),if_neg (by rw [hb1]; decide),if_pos hb16]
     clear hb2 hb1 hb16
     go_wp2_with fail
     go_ret
     exact ⟨ret_int (by rw [HK.out,HR.out]),HB1.out⟩
    | false =>
     rw [hb16,if_neg (by decide)] at a16
     have HR : Hid (kindF f = 0):=by show _ = _; unfold kindF; rw [if_neg (by rw [hb2]; decide),if_neg (by rw [hb1]; decide),if_neg (by rw [hb16]; decide)]
     clear hb2 hb1 hb16
     go_wp2_with fail
     go_ret
     exact ⟨ret_int (by rw [HK.out,HR.out]),HB1.out⟩

set_option maxHeartbeats 2000000 in
theorem refKind_any {g : Img} (t : Int) {w : World} (hg : Im w g) (hf : FlOk g) :
  Calls Tryd.prog 14 #[imV g,.int .i64 t] w fun e w' => e = .returned (.int .i64 (kndI g t))∧Below w.heap.size w w':=by
 obtain ⟨w0,hw0⟩ : ∃ W,W = w.alloc (.cells (imC g) 26):=⟨_,rfl⟩
 have HW0 : Hid (w0 = _):=hw0
 obtain ⟨hb0,hgb⟩:=GB.made hg hw0
 have HB0 : Hid (Below w.heap.size w w0):=hb0
 have HG : Hid (∀ W,Below w0.heap.size w0 W → GB W w.heap.size g):=fun W hW => hgb.later hW
 obtain ⟨c0,c1,c2,c3⟩:=hgb.cells
 have htl:=hg.ts.len
 unfold maxLen at htl
 have HTh : Hid (Calls Tryd.prog 9 #[.agg (imC g),.int .i64 t] w0 fun e w' => e = .returned (.bool (numB t g.ts.length))∧Below w0.heap.size w0 w'):=refThere_any t hgb.im
 unfold imC at HW0 HTh
 clear hw0 hb0 hgb hg
 unfold imV
 go_enter Tryd.func14,Tryd.ntmps14
 go_wp2_with (rw [← HW0.out])
 refine Calls.mono HTh.out ?_
 rintro e w1 ⟨rfl,hb1⟩
 have HB1 : Hid (Below w.heap.size w w1):=bstep HB0.out hb1
 have hG1:=HG.out w1 hb1
 clear c0 c1 c2 c3 hb1 HTh
 cases hn : numB t g.ts.length with
 | false =>
  have HK : Hid (kndI g t = -1):=by show _ = _; unfold kndI; rw [hn]; rfl
  go_wp2_with fail
  go_ret
  exact ⟨ret_int HK.out.symm,HB1.out⟩
 | true =>
  obtain ⟨q,rfl,hq⟩:=num_nat hn
  obtain ⟨tb,off,hta,htb,h1,h2,k0,k1,k2,k3⟩:=hG1.type hq
  obtain ⟨c0,c1,c2,c3⟩:=hG1.cells
  have HK : Hid (kndI g (q : Int) = kindF g.ts[q].fl):=knd_at hq
  have hfq:=hf _ (List.getElem_mem hq)
  have HBt : Hid (∀ (k : Nat) (_ : 1 ≤ k∧k ≤ 16) W,Calls Tryd.prog 21 #[.int .i64 g.ts[q].fl,.int .i64 (k : Int)] W fun e w' => e = .returned (.bool (bitB g.ts[q].fl k))∧w' = W):=fun k hk W => refBit_any hfq hk W
  unfold maxLen at h2
  rw [hta] at c0
  clear hta hG1 hf hn hfq
  generalize g.ts[q].fl = f at *
  go_wp2_with fail
  refine (HBt.out 2 (by omega) _).mono ?_
  rintro e wz ⟨rfl,hz⟩; subst wz
  cases hb2 : bitB f 2 with
  | true =>
   have HR : Hid (kindF f = 2):=by show _ = _; unfold kindF; rw [if_pos hb2]
   go_wp2_with fail
   go_ret
   exact ⟨ret_int (by rw [HK.out,HR.out]),HB1.out⟩
  | false =>
   go_wp2_with fail
   refine (HBt.out 1 (by omega) _).mono ?_
   rintro e wz ⟨rfl,hz⟩; subst wz
   cases hb1 : bitB f 1 with
   | true =>
    have HR : Hid (kindF f = 1):=by show _ = _; unfold kindF; rw [if_neg (by rw [hb2]; decide),if_pos hb1]
    go_wp2_with fail
    go_ret
    exact ⟨ret_int (by rw [HK.out,HR.out]),HB1.out⟩
   | false =>
    go_wp2_with fail
    refine (HBt.out 16 (by omega) _).mono ?_
    rintro e wz ⟨rfl,hz⟩; subst wz
    cases hb16 : bitB f 16 with
    | true =>
     have HR : Hid (kindF f = 3):=by show _ = _; unfold kindF; rw [if_neg (by rw [hb2]; decide),if_neg (by rw [hb1]; decide),if_pos hb16]
     go_wp2_with fail
     go_ret
     exact ⟨ret_int (by rw [HK.out,HR.out]),HB1.out⟩
    | false =>
     have HR : Hid (kindF f = 0):=by show _ = _; unfold kindF; rw [if_neg (by rw [hb2]; decide),if_neg (by rw [hb1]; decide),if_neg (by rw [hb16]; decide)]
     go_wp2_with fail
     go_ret
     exact ⟨ret_int (by rw [HK.out,HR.out]),HB1.out⟩
theorem has_step {l : List Int} {n : Int} {q : Nat} (hq : q < l.length) (h : (l.take q).contains n = false) (hx : l[q] ≠ n) : (l.take (q + 1)).contains n = false:=by
 rw [List.take_succ_eq_append_getElem hq]
 rw [Bool.eq_false_iff]
 intro hc
 rw [List.contains_iff_mem] at hc
 rcases List.mem_append.1 hc with hc | hc
 ·rw [List.contains_iff_mem.2 hc] at h; cases h
 ·simp at hc; exact hx hc.symm
theorem has_yes {l : List Int} {n : Int} {q : Nat} (hq : q < l.length) (hx : l[q] = n) : l.contains n = true:=by
 rw [List.contains_iff_mem,← hx]; exact List.getElem_mem hq
theorem has_done {l : List Int} {n : Int} {q : Nat} (hq : ¬ q < l.length) (h : (l.take q).contains n = false) : l.contains n = false:=by
 rwa [List.take_of_length_le (by omega)] at h
theorem Is.parts {w : World} {v : Value} {l : List Int} (h : Is w v l) (hne : l ≠ []) : ∃ b off cap,v = .slice (some ⟨b,off,none⟩) l.length cap∧l.length ≤ cap∧cap ≤ maxLen∧b < w.heap.size∧∀ i (hi : i < l.length),w.cell? ⟨b,off + i,none⟩ = some (.int .i64 l[i]):=by
 obtain ⟨a,cap,rfl,h1,h2,h3⟩:=h
 rw [i64s_length] at h1
 obtain ⟨b,off,rfl,hb,hc⟩:=h3 (by intro e; apply hne; simpa [i64s] using e)
 refine ⟨b,off,cap,by rw [i64s_length],h1,h2,hb,fun i hi => ?_⟩
 rw [hc i (by rw [i64s_length]; exact hi)]; simp [i64s]
theorem Is.shape {w : World} {v : Value} {l : List Int} (h : Is w v l) : ∃ a c,v = .slice a l.length c∧l.length ≤ c∧c ≤ maxLen:=by
 obtain ⟨a,cap,rfl,h1,h2,_⟩:=h
 rw [i64s_length] at h1
 exact ⟨a,cap,by rw [i64s_length],h1,h2⟩
theorem Is.at {w : World} {a : Option Addr} {c n : Nat} {l : List Int} (h : Is w (.slice a n c) l) {q : Nat} (hq : q < l.length) : ∃ b off,a = some ⟨b,off,none⟩∧b < w.heap.size∧n = l.length∧n ≤ c∧c ≤ maxLen∧∀ i (hi : i < l.length),w.cell? ⟨b,off + i,none⟩ = some (.int .i64 l[i]):=by
 obtain ⟨b,off,cap,hv,h1,h2,hb,hc⟩:=h.parts (by intro e; rw [e] at hq; simp at hq)
 simp only [Value.slice.injEq] at hv
 obtain ⟨rfl,rfl,rfl⟩:=hv
 exact ⟨b,off,rfl,hb,rfl,h1,h2,hc⟩

theorem refHas_none (a : Option Addr) (cap : Nat) (n : Int) (w : World) :
  Calls Tryd.prog 36 #[.slice a 0 cap,.int .i64 n] w fun e w' => e = .returned (.bool false)∧w' = w:=by
 go_enter Tryd.func36,Tryd.ntmps36
 go_wp2
 refine wp_loop_rounds 1 ?_; rw [rounds_succ]
 go_wp2
 go_ret
 exact ⟨rfl,rfl⟩
set_option maxHeartbeats 1000000 in
theorem refHas_some {b off cap : Nat} {l : List Int} {n : Int} {w : World} (hl : l.length ≤ maxLen) (hc : ∀ i (hi : i < l.length),w.cell? ⟨b,off + i,none⟩ = some (.int .i64 l[i])) :
  Calls Tryd.prog 36 #[.slice (some ⟨b,off,none⟩) l.length cap,.int .i64 n] w fun e w' => e = .returned (.bool (l.contains n))∧w' = w:=by
 unfold maxLen at hl
 have HC : Hid (∀ i (hi : i < l.length),w.cell? ⟨b,off + i,none⟩ = some (.int .i64 l[i])):=hc
 clear hc
 go_enter Tryd.func36,Tryd.ntmps36
 go_wp2_with fail
 go_loopw [5] (fun z wr => ∃ q : Nat,q ≤ l.length∧z = .int .i64 q∧wr = w∧Hid ((l.take q).contains n = false)) (fun z _ => l.length - (intOf z).toNat)
 case atStart => exact ⟨0,Nat.zero_le _,rfl,rfl,by show _ = _; simp⟩
 case round =>
  obtain ⟨q,hq,rfl,rfl,HA⟩:=hrel
  by_cases hql : q < l.length
  ·have cq:=HC.out q hql
   have HY : Hid (l[q] ≠ n → (l.take (q + 1)).contains n = false):=fun h => has_step hql HA.out h
   have HN : Hid (l[q] = n → l.contains n = true):=fun h => has_yes hql h
   generalize l[q] = y at *
   by_cases hyn : y = n
   ·have HR:=HN.out hyn
    have hb : (y == n) = true:=by simpa using hyn
    have HRh : Hid (l.contains n = true):=HR
    clear HY HN HR hyn
    go_wp2_with fail
    go_ret
    exact ⟨ret_bool HRh.out.symm,rfl⟩
   ·have hb : (y == n) = false:=by simpa using hyn
    have HY2 : Hid ((l.take (q + 1)).contains n = false):=HY.out hyn
    clear HY HN hyn
    go_wp2_with fail
    go_roundw
    case rel => exact ⟨q + 1,by omega,by go_num,by simp,HY2.out⟩
    case measure => simp [intOf]; omega
  ·have HD : Hid (l.contains n = false):=has_done hql HA.out
   go_wp2_with fail
   go_ret
   exact ⟨ret_bool HD.out.symm,rfl⟩
theorem refHas_any {v : Value} {l : List Int} {w : World} (h : Is w v l) (n : Int) :
  Calls Tryd.prog 36 #[v,.int .i64 n] w fun e w' => e = .returned (.bool (l.contains n))∧w' = w:=by
 by_cases hne : l = []
 ·subst hne
  obtain ⟨a,c,rfl,_,_⟩:=h.shape
  exact refHas_none a c n w
 ·obtain ⟨b,off,cap,rfl,h1,h2,hb,hc⟩:=h.parts hne
  exact refHas_some (by omega) hc

theorem index11_none (a : Option Addr) (cap : Nat) (n : Int) (w : World) :
  Calls Tryd.prog 42 #[.slice a 0 cap,.int .i64 n] w fun e w' => e = .returned (.int .i64 (-1))∧w' = w:=by
 go_enter Tryd.func42,Tryd.ntmps42
 go_wp2
 refine wp_loop_rounds 1 ?_; rw [rounds_succ]
 go_wp2
 go_ret
 exact ⟨rfl,rfl⟩
set_option maxHeartbeats 1000000 in
theorem index11_some {b off cap : Nat} {l : List Int} {n : Int} {w : World} (hl : l.length ≤ maxLen) (hc : ∀ i (hi : i < l.length),w.cell? ⟨b,off + i,none⟩ = some (.int .i64 l[i])) :
  Calls Tryd.prog 42 #[.slice (some ⟨b,off,none⟩) l.length cap,.int .i64 n] w fun e w' => (∃ k : Int,e = .returned (.int .i64 k)∧decide (0 ≤ k) = l.contains n)∧w' = w:=by
 unfold maxLen at hl
 have HC : Hid (∀ i (hi : i < l.length),w.cell? ⟨b,off + i,none⟩ = some (.int .i64 l[i])):=hc
 clear hc
 go_enter Tryd.func42,Tryd.ntmps42
 go_wp2_with fail
 go_loopw [5,8] (fun _ z wr => ∃ q : Nat,q ≤ l.length∧z = .int .i64 q∧wr = w∧Hid ((l.take q).contains n = false)) (fun _ z _ => l.length - (intOf z).toNat)
 case atStart => exact ⟨0,Nat.zero_le _,rfl,rfl,by show _ = _; simp⟩
 case round =>
  obtain ⟨q,hq,rfl,rfl,HA⟩:=hrel
  by_cases hql : q < l.length
  ·have cq:=HC.out q hql
   have HY : Hid (l[q] ≠ n → (l.take (q + 1)).contains n = false):=fun h => has_step hql HA.out h
   have HN : Hid (l[q] = n → l.contains n = true):=fun h => has_yes hql h
   generalize l[q] = y at *
   by_cases hyn : y = n
   ·have hb : (n == y) = true:=by simpa using hyn.symm
    have HRh : Hid (l.contains n = true):=HN.out hyn
    clear HY HN hyn
    go_wp2_with fail
    go_ret
    exact ⟨⟨_,rfl,by rw [HRh.out]; simp⟩,rfl⟩
   ·have hb : (n == y) = false:=by simpa using fun h => hyn (Eq.symm h)
    have HY2 : Hid ((l.take (q + 1)).contains n = false):=HY.out hyn
    clear HY HN hyn
    go_wp2_with fail
    go_roundw
    case rel => exact ⟨q + 1,by omega,by go_num,by simp,HY2.out⟩
    case measure => simp [intOf]; omega
  ·have HD : Hid (l.contains n = false):=has_done hql HA.out
   go_wp2_with fail
   go_ret
   exact ⟨⟨_,rfl,by rw [HD.out]; rfl⟩,rfl⟩
theorem contains11_any {v : Value} {l : List Int} {w : World} (h : Is w v l) (n : Int) :
  Calls Tryd.prog 27 #[v,.int .i64 n] w fun e w' => e = .returned (.bool (l.contains n))∧w' = w:=by
 have HI : Hid (Calls Tryd.prog 42 #[v,.int .i64 n] w fun e w' => (∃ k : Int,e = .returned (.int .i64 k)∧decide (0 ≤ k) = l.contains n)∧w' = w):=by
  by_cases hne : l = []
  ·subst hne
   obtain ⟨a,c,rfl,_,_⟩:=h.shape
   refine (index11_none a c n w).mono ?_
   rintro e w' ⟨rfl,rfl⟩
   exact ⟨⟨_,rfl,rfl⟩,rfl⟩
  ·obtain ⟨b,off,cap,rfl,h1,h2,hb,hc⟩:=h.parts hne
   exact index11_some (by omega) hc
 clear h
 generalize l.contains n = r at *
 go_enter Tryd.func27,Tryd.ntmps27
 go_wp2_with fail
 refine Calls.mono HI.out ?_
 rintro e wz ⟨⟨k,rfl,hk⟩,hz⟩
 subst wz
 have HK : Hid (decide (0 ≤ k) = r):=hk
 clear hk
 go_wp2
 go_ret
 exact ⟨ret_bool HK.out,rfl⟩
end Go.Proofs.YtapocgcdjkbnhaaDoor

namespace Go.Proofs.YtapocgcdjkbnhaaDoor
set_option linter.unusedVariables false
set_option linter.unusedSimpArgs false
open Go.RowKit
def KeepT (t : TypeId) (w w' : World) : Prop := ∀ g C,At w g C t → At w' g C t
theorem KeepT.refl (t : TypeId) (w : World) : KeepT t w w:=fun _ _ h => h
theorem KeepT.trans {t : TypeId} {a b c : World} (h : KeepT t a b) (k : KeepT t b c) : KeepT t a c:=fun g C ha => k g C (h g C ha)
theorem KeepT.below {t : TypeId} {w w' : World} (h : Below w.heap.size w w') : KeepT t w w':=fun _ _ ha => ha.later h
theorem At.type_eq {w : World} {g : Nat} {C D : Array Value} {s t : TypeId} (h : At w g C s) (k : At w g D t) : s = t:=by
 unfold At at h k
 rw [h] at k
 simp only [Option.some.injEq,Obj.cells.injEq] at k
 exact k.2.1
theorem KeepT.grown {α : Type} {E : Enc α} {t s : TypeId} {w w' : World} {base : Nat} {v : Value} {l : List α} (ho : OwnE E w base s v l) (hne : t ≠ s) (hg : w.grownBy w' v.ownBlock) : KeepT t w w':=fun g C h => h.grownE ho hne hg
theorem grown_none {w w' : World} {n c : Nat} (hg : w.grownBy w' (Value.slice none n c).ownBlock) : Below w.heap.size w w' :=
 ⟨hg.os,hg.tape,hg.output,hg.size,fun k hk => hg.block k hk (fun e => by simp [Value.ownBlock] at e)⟩
end Go.Proofs.YtapocgcdjkbnhaaDoor
