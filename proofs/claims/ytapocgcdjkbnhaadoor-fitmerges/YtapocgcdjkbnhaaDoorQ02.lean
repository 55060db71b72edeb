/- Texts joined: Cell5, At5, Apd, Put5, TList5, PutSig5. -/
import Derived.Test.YtapocgcdjkbnhaaDoorQ01
import Derived.Test.YtapocgcdjkbnhaaDoorRows
import Derived.BigRegion
import Derived.Deep.AppendSrc
import Derived.Deep.DeepAppendWide
import Derived.Laws.IdiomStrings
import Derived.Deep.RegionHeld3
namespace Go.Proofs.YtapocgcdjkbnhaaDoor
set_option linter.unusedVariables false
set_option linter.unusedSimpArgs false
open Go.RowKit
def TyAt (w : World) (g : Nat) (k i d : Int) (r : Bool) : Prop:=w.heap[g]? = some (.cells #[.int .i64 k,.int .i64 i,.int .i64 d,.bool r] 28 (0,0))

theorem TyAt.cells {w : World} {g : Nat} {k i d : Int} {r : Bool} (h : TyAt w g k i d r) :
  w.cell? ⟨g,0,none⟩ = some (.int .i64 k)∧w.cell? ⟨g,1,none⟩ = some (.int .i64 i)∧w.cell? ⟨g,2,none⟩ = some (.int .i64 d)∧w.cell? ⟨g,3,none⟩ = some (.bool r):=by
 unfold TyAt at h
 simp [World.cell?,h]
theorem TyAt.lt {w : World} {g : Nat} {k i d : Int} {r : Bool} (h : TyAt w g k i d r) : g < w.heap.size:=(Array.getElem?_eq_some_iff.1 h).1
theorem TyAt.below {w w' : World} {g B : Nat} {k i d : Int} {r : Bool} (h : TyAt w g k i d r) (hb : Below B w w') (hg : g < B) : TyAt w' g k i d r:=by
 unfold TyAt at h ⊢
 rw [hb.block g hg]; exact h
theorem TyAt.later {w w' : World} {g : Nat} {k i d : Int} {r : Bool} (h : TyAt w g k i d r) (hb : Below w.heap.size w w') : TyAt w' g k i d r:=h.below hb h.lt
theorem TyAt.only {w w' : World} {g rb : Nat} {k i d : Int} {r : Bool} (h : TyAt w g k i d r) (ho : Only rb w w') (hg : g ≠ rb) : TyAt w' g k i d r:=by
 have:=h.lt
 unfold TyAt at h ⊢
 rw [ho.block g this hg]; exact h
theorem TyAt.made (w : World) (k i d : Int) (r : Bool) : TyAt (w.alloc (.cells #[.int .i64 k,.int .i64 i,.int .i64 d,.bool r] 28)) w.heap.size k i d r:=by
 unfold TyAt
 have:=heap_alloc_new w (.cells #[.int .i64 k,.int .i64 i,.int .i64 d,.bool r] 28)
 simpa using this
theorem At.only {w w' : World} {g rb : Nat} {C : Array Value} {t : TypeId} (h : At w g C t) (ho : Only rb w w') (hg : g ≠ rb) : At w' g C t:=by
 have:=h.lt
 unfold At at h ⊢
 rw [ho.block g this hg]; exact h
theorem TyAt.at {w : World} {g : Nat} {k i d : Int} {r : Bool} (h : TyAt w g k i d r) : At w g #[.int .i64 k,.int .i64 i,.int .i64 d,.bool r] 28:=h
def Sl (w : World) (v : Value) (xs : List Value) : Prop :=
 ∃ a cap,v = .slice a xs.length cap∧xs.length ≤ cap∧cap ≤ maxLen ∧
  (xs ≠ [] → ∃ b off,a = some ⟨b,off,none⟩∧b < w.heap.size∧∀ i (h : i < xs.length),w.cell? ⟨b,off + i,none⟩ = some xs[i])

theorem Sl.nil (w : World) : Sl w (.slice none 0 0) []:=⟨none,0,rfl,Nat.le_refl _,Nat.zero_le _,fun h => absurd rfl h⟩
theorem Sl.len {w : World} {v : Value} {xs : List Value} (h : Sl w v xs) : xs.length ≤ maxLen:=by
 obtain ⟨a,cap,_,h1,h2,_⟩:=h; omega
theorem Sl.of_block {w w' : World} {v : Value} {xs : List Value} (h : Sl w v xs) (hs : w.heap.size ≤ w'.heap.size) (hk : ∀ k,v.ownBlock = some k → k < w.heap.size → w'.heap[k]? = w.heap[k]?) : Sl w' v xs:=by
 obtain ⟨a,cap,rfl,h1,h2,h3⟩:=h
 refine ⟨a,cap,rfl,h1,h2,fun hne => ?_⟩
 obtain ⟨b,off,rfl,hb,hc⟩:=h3 hne
 refine ⟨b,off,rfl,by omega,fun i hi => ?_⟩
 rw [← hc i hi]
 exact World.cell?_of_block (hk b rfl hb)
theorem Sl.later {w w' : World} {v : Value} {xs : List Value} (h : Sl w v xs) (hb : Below w.heap.size w w') : Sl w' v xs :=
 h.of_block hb.size fun k _ hk => hb.block k hk
theorem Sl.below {w w' : World} {v : Value} {xs : List Value} {B : Nat} (h : Sl w v xs) (hb : Below B w w') (hk : ∀ k,v.ownBlock = some k → k < B) : Sl w' v xs :=
 h.of_block hb.size fun k hv _ => hb.block k (hk k hv)
theorem Sl.bs {w : World} {v : Value} {bs : List UInt8} (h : Sl w v (u8s bs)) : Bs w v bs:=by
 obtain ⟨a,cap,rfl,h1,h2,h3⟩:=h
 rw [u8s_length] at h1
 refine ⟨a,cap,by rw [u8s_length],h1,h2,fun hne => ?_⟩
 obtain ⟨b,off,rfl,hb,hc⟩:=h3 (by intro e; simp [u8s] at e; exact hne e)
 refine ⟨b,off,rfl,hb,fun i hi => ?_⟩
 rw [hc i (by rw [u8s_length]; exact hi)]; simp [u8s]

theorem Sl.made (w : World) (xs : List Value) (C : Array Value) (e : TypeId) (n : Nat) (hC : C = xs.toArray) (hn : n = xs.length) (hm : xs.length ≤ maxLen) : Sl (w.alloc (.cells C e)) (.slice (some ⟨w.heap.size,0,none⟩) n n) xs:=by
 subst hC hn
 refine ⟨_,_,rfl,Nat.le_refl _,hm,fun _ => ⟨_,_,rfl,by simp,fun i hi => ?_⟩⟩
 rw [Nat.zero_add,World.cell?_alloc_at _ _ _ _ rfl]
 simp [List.getElem?_eq_getElem hi]

theorem Sl.src {P : Program} {w : World} {y : Value} {ys : List Value} (h : Sl w y ys) {tx e' : TypeId} (hk : P.underlying tx = some (.slice e')) (h1 : ∀ u ∈ ys,u.oneCell' = true) : Src P 1 tx y ys.length ys w:=by
 obtain ⟨a,cap,rfl,g1,g2,g3⟩:=h
 cases a with
 | none =>
  have hys : ys = []:=by
   by_cases h : ys = []
   ·exact h
   ·obtain ⟨b,off,hh,_⟩:=g3 h; simp at hh
  subst hys
  exact Src.ofNil w hk cap
 | some ad =>
  refine Src.ofSlice w hk ad ys.length cap ys (by omega) ?_ h1
  intro j u hj
  have hjl:=(List.getElem?_eq_some_iff.1 hj).1
  obtain ⟨b,off,hh,_,hc⟩:=g3 (by intro e; subst e; simp at hjl)
  simp only [Option.some.injEq] at hh
  subst hh
  have hplain : (⟨b,off,none⟩ : Addr).add j = ⟨b,off + j,none⟩:=by unfold Addr.add; split <;> simp_all
  rw [hplain,hc j hjl,← (List.getElem?_eq_some_iff.1 hj).2]

def OwnV (w : World) (base : Nat) (e : TypeId) (v : Value) (xs : List Value) : Prop:=w.ownsRow base e 1 v xs.length xs

theorem Own.v {w : World} {base : Nat} {e : TypeId} {v : Value} {xs : List UInt8} (h : Own w base e v xs) : OwnV w base e v (u8s xs):=by
 unfold OwnV; rw [u8s_length]; exact h
theorem OwnV.own {w : World} {base : Nat} {e : TypeId} {v : Value} {xs : List UInt8} (h : OwnV w base e v (u8s xs)) : Own w base e v xs:=by
 unfold OwnV at h; rw [u8s_length] at h; exact h
theorem OwnV.sl {w : World} {base : Nat} {e : TypeId} {v : Value} {xs : List Value} (h : OwnV w base e v xs) : Sl w v xs:=by
 obtain ⟨h1,h2⟩:=h
 rcases h2 with ⟨rfl,h0⟩ | ⟨g,cap,cur,rfl,hg,hh,hn,hm,hs,ht⟩
 ·have : xs = []:=List.eq_nil_of_length_eq_zero h0
  subst this; exact Sl.nil w
 ·refine ⟨_,cap,rfl,hn,hm,fun _ => ⟨g,0,rfl,(Array.getElem?_eq_some_iff.1 hh).1,fun i hi => ?_⟩⟩
  have : (cur.toList.take (xs.length * 1))[i]? = some xs[i]:=by rw [ht]; exact List.getElem?_eq_getElem hi
  simp only [World.cell?,hh]
  rw [List.getElem?_take,if_pos (by omega)] at this
  simpa using this
theorem OwnV.block {w : World} {base : Nat} {e : TypeId} {v : Value} {xs : List Value} (h : OwnV w base e v xs) : ∀ k,v.ownBlock = some k → base ≤ k∧k < w.heap.size:=World.ownsRow.lt h
theorem OwnV.of_block {w w' : World} {base : Nat} {e : TypeId} {v : Value} {xs : List Value} (h : OwnV w base e v xs) (hb : ∀ k,v.ownBlock = some k → k < w.heap.size → w'.heap[k]? = w.heap[k]?) : OwnV w' base e v xs:=by
 obtain ⟨h1,h2⟩:=h
 refine ⟨h1, ?_⟩
 rcases h2 with h2 | ⟨g,cap,cur,rfl,hg,hh,r⟩
 ·exact Or.inl h2
 ·exact Or.inr ⟨g,cap,cur,rfl,hg,by rw [hb g rfl (Array.getElem?_eq_some_iff.1 hh).1]; exact hh,r⟩
theorem OwnV.later {w w' : World} {base : Nat} {e : TypeId} {v : Value} {xs : List Value} (h : OwnV w base e v xs) (hb : Below w.heap.size w w') : OwnV w' base e v xs :=
 h.of_block fun k _ hk => hb.block k hk
theorem OwnV.typed {w : World} {base : Nat} {e : TypeId} {v : Value} {xs : List Value} (h : OwnV w base e v xs) : ∀ k,v.ownBlock = some k → ∃ C,w.heap[k]? = some (.cells C e (0,0)):=by
 intro k hk
 rcases h.2 with ⟨rfl,_⟩ | ⟨g,cap,cur,rfl,hg,hh,r⟩
 ·simp [Value.ownBlock] at hk
 ·simp [Value.ownBlock] at hk; subst hk; exact ⟨cur,hh⟩
theorem OwnV.nil (w : World) (base : Nat) (e : TypeId) : OwnV w base e (.slice none 0 0) []:=World.ownsRow_nil w base e 1
theorem OwnV.lit (w : World) (base : Nat) (e : TypeId) (xs : List Value) (C : Array Value) (n : Nat) (hb : base ≤ w.heap.size) (hC : C = xs.toArray) (hn : n = xs.length) (hm : xs.length ≤ maxLen) :
  OwnV (w.alloc (.cells C e)) base e (.slice (some ⟨w.heap.size,0,none⟩) n n) xs:=by
 subst hC hn
 have:=World.ownsRow_lit (base:=base) (e:=e) (size := 1) w xs.toArray xs.length hb hm (by simp)
 unfold OwnV
 simpa using this

theorem run_append_at {P : Program} (w : World) (base : Nat) (t tx ty e : TypeId) (i : TypeInfo) (z : Value) (ht : P.underlying t = some (.slice e)) (hi : P.info? e = some i) (hz : i.zero = some z) (hs1 : i.size = 1) (hzs : z.cells.size = 1)
  {v y : Value} {xs news : List Value} {n : Nat} (hv : OwnV w base e v xs) (hs : Src P 1 tx y n news w) (h63 : xs.length + n ≤ maxLen) (hbytes : ((xs.length + n) + (xs.length + n) / 4 + 192) * i.bytes ≤ 281474976710656) (hbase : base ≤ w.heap.size) :
  ∃ v' w',(Builtin.append_ #[t,tx] ty #[v,y]).run P w = .ok v' w'∧OwnV w' base e v' (xs ++ news)∧w.grownBy w' v.ownBlock∧(v'.ownBlock = v.ownBlock ∨ v'.ownBlock = some w.heap.size)∧w'.heap.size ≤ w.heap.size + 1:=by
 have hnl : news.length = n:=by have:=hs.newsLen; omega
 have h63i : ((xs.length + n : Nat) : Int) ≤ 9223372036854775807:=by simp only [maxLen] at h63; omega
 have hlen : (xs ++ news).length = xs.length + n:=by rw [List.length_append,hnl]
 have grown : ∀ (old : Nat),old < xs.length + n →
   OwnV (w.drew.alloc (.cells ((xs ++ news).toArray ++ Builtin.zeroCells z.cells (grownCap w (xs.length + n) old e - (xs.length + n))) e)) base e
    (.slice (some ⟨w.heap.size,0,none⟩) (xs.length + n) (grownCap w (xs.length + n) old e)) (xs ++ news):=by
  intro old ho
  have hge:=grownCap_ge w (xs.length + n) old e
  have hcm : grownCap w (xs.length + n) old e ≤ maxLen:=grownCap_le_maxLen w (xs.length + n) old e h63
  refine ⟨by omega,.inr ⟨w.heap.size,_,_,by rw [hlen],hbase,heap_alloc_new w.drew _,by rw [hlen]; exact hge,hcm, ?_, ?_⟩⟩
  ·simp only [Array.size_append,List.size_toArray,size_zeroCells,hzs,hlen]; omega
  ·rw [show (xs ++ news).length * 1 = (xs ++ news).length by omega,Array.toList_append]
   exact List.take_left
 have hgb : ∀ row C,w.grownBy (w.drew.alloc (.cells C e)) row:=fun row C => ⟨rfl,rfl,rfl,by simp,fun k hk _ => heap_alloc_old w.drew _ hk⟩
 rcases hv.2 with ⟨rfl,h0⟩ | ⟨g,cap,cur,rfl,hbg,hg,hnc,hcm,hcs,htake⟩
 ·have hx : xs = []:=List.eq_nil_of_length_eq_zero h0
  subst hx
  by_cases hm : n = 0
  ·subst hm
   have hn : news = []:=List.eq_nil_of_length_eq_zero hnl
   subst hn
   refine ⟨.slice none 0 0,w, ?_,OwnV.nil w base e,⟨rfl,rfl,rfl,Nat.le_refl _,fun _ _ _ => rfl⟩,.inl rfl,by omega⟩
   have hc:=hs.cells
   rcases hs.kind with ⟨e',hk⟩ | hk <;> simp [Builtin.append_,run_underlying ht,run_underlying hk,sizeOf,typeInfo,hi,hs1,hs.len,hc]
  ·have hr:=run_append_grow_src (P:=P) w t tx ty e i z ht hi hz none 0 0 [] (by simp [Builtin.firstCells]) y n news (by rw [hs1]; exact hs) (by omega) (by simpa using h63i) (growslice_fits_wide (by omega) (by simpa using hbytes))
   have hgr:=grown 0 (by simp; omega)
   simp only [List.length_nil] at hgr
   exact ⟨_,_,hr,hgr,hgb _ _,.inr rfl,by simp⟩
 ·by_cases hroom : xs.length + n ≤ cap
  ·have hfit : xs.length * i.size + news.length ≤ cur.size:=by rw [hs1,hcs,hnl]; omega
   have hst:=run_storeCells_at P g (xs.length * i.size) e news 0 cur w hg (by simpa using hfit) hs.one
   simp only [Nat.add_zero] at hst
   have hr : (Builtin.append_ #[t,tx] ty #[.slice (some ⟨g,0,none⟩) xs.length cap,y]).run P w = .ok (.slice (some ⟨g,0,none⟩) (xs.length + n) cap) (w.setRow g (cur.toList.take (xs.length * i.size) ++ news ++ cur.toList.drop (xs.length * i.size + news.length)).toArray):=by
    have hc:=hs.cells
    rw [hs1] at hst ⊢
    simp only [Nat.mul_one] at hst ⊢
    rcases hs.kind with ⟨e',hk⟩ | hk <;> simp [Builtin.append_,run_underlying ht,run_underlying hk,sizeOf,typeInfo,hi,hs1,hs.len,hc,hroom,Addr.add_lit,hst]
   refine ⟨_,_,hr,⟨by omega,.inr ⟨g,cap,_,by rw [hlen],hbg,setRow_heap w g cur _ e _ hg,by rw [hlen]; exact hroom,hcm, ?_, ?_⟩⟩,⟨rfl,rfl,rfl,by simp,fun k _ hk => setRow_other w g k _ (fun e => hk (by simp [Value.ownBlock,e]))⟩,.inl rfl,by simp⟩
   ·simp only [List.size_toArray,List.length_append,List.length_take,List.length_drop,Array.length_toList,hs1]
    omega
   ·rw [hs1,htake,Nat.mul_one]
    exact List.take_left
  ·have hold : (Builtin.firstCells i.size xs.length (.slice (some ⟨g,0,none⟩) xs.length cap)).run P w.drew = .ok xs.toArray w.drew:=by
    rw [hs1]
    refine run_firstCells_some w.drew 1 xs.length ⟨g,0,none⟩ xs.length cap xs (by omega) ?_
    intro j u hj
    exact World.ownsRow.cells (w:=w.drew) (base:=base) (e:=e) (size := 1) (v := .slice (some ⟨g,0,none⟩) xs.length cap) (n:=xs.length) (xs:=xs) hv (g:=g) rfl j u hj
   have hr:=run_append_grow_src (P:=P) w t tx ty e i z ht hi hz (some ⟨g,0,none⟩) xs.length cap xs hold y n news (by rw [hs1]; exact hs) (by omega) h63i (growslice_fits_wide (by omega) hbytes)
   exact ⟨_,_,hr,grown cap (by omega),hgb _ _,.inr rfl,by simp⟩

theorem wpList_append_at {P : Program} {ops : Array Oper} {Q : Exit → Act → World → Prop} {a : Act} {w : World} {rest : List Oper} {o : Oper} (hw : Region.wanted o (yielded ops a.tmps) = true) (s x : Operand) (t tx : TypeId)
  (ho : o.op = .call { callee := .builtin .append,args:=#[s,x],argTypes:=#[t,tx] }) (base : Nat) (e : TypeId) (z : Value) (bytes : Nat) (ht : P.underlying t = some (.slice e)) (hinfo : (P.info? e).map (fun i => (i.zero,i.size,i.bytes)) = some (some z,1,bytes)) (hzs : z.cells.size = 1)
  {v y : Value} {xs news : List Value} {n : Nat} (hs : a.eval s = v) (hx : a.eval x = y) (hv : OwnV w base e v xs) (hy : Src P 1 tx y n news w) (h63 : xs.length + n ≤ maxLen) (hb : ((xs.length + n) + (xs.length + n) / 4 + 192) * bytes ≤ 281474976710656) (hbase : base ≤ w.heap.size)
  (h : ∀ v' w',OwnV w' base e v' (xs ++ news) → w.grownBy w' v.ownBlock → (v'.ownBlock = v.ownBlock ∨ v'.ownBlock = some w.heap.size) → w'.heap.size ≤ w.heap.size + 1 → wpList P ops Q rest (a.put o.dst v') w') : wpList P ops Q (o :: rest) a w:=by
 refine wpList_want hw fun K hK => ?_
 obtain ⟨i,hi,hz0,hz1,hz2⟩:=info_parts hinfo
 subst hz2
 obtain ⟨v',w',hr,h2,h3,h4,h5⟩:=run_append_at (P:=P) w base t tx o.type e i z ht hi hz0 hz1 hzs hv hy h63 hb hbase
 unfold Oper.wp execOp
 simp only [ho,resolve,invoke,builtin,Sem.run_bind,Sem.run_pure,Result.andThen_ok,List.map_toArray,List.map_cons,List.map_nil,hs,hx,hr]
 exact hK _ _ (h v' w' h2 h3 h4 h5)
theorem At.grown {w w' : World} {g base : Nat} {C : Array Value} {t : TypeId} {v : Value} {xs : List UInt8} (h : At w g C t) (ho : Own w base 5 v xs) (ht : t ≠ 5) (hg : w.grownBy w' v.ownBlock) : At w' g C t:=by
 have hl:=h.lt
 have hne : some g ≠ v.ownBlock:=by
  intro e
  obtain ⟨C',hC⟩:=ho.v.typed g e.symm
  unfold At at h
  rw [h] at hC
  simp only [Option.some.injEq,Obj.cells.injEq] at hC
  exact ht hC.2.1
 unfold At at h ⊢
 rw [hg.block g hl hne]; exact h

def Keeps (w w' : World) : Prop := ∀ g C t,t ≠ 5 → At w g C t → At w' g C t
theorem Keeps.refl (w : World) : Keeps w w:=fun _ _ _ _ h => h
theorem Keeps.trans {a b c : World} (h : Keeps a b) (k : Keeps b c) : Keeps a c:=fun g C t ht ha => k g C t ht (h g C t ht ha)
theorem Keeps.of_below {w w' : World} (h : Below w.heap.size w w') : Keeps w w':=fun _ _ _ _ ha => ha.later h
theorem Keeps.of_grown {w w' : World} {base : Nat} {v : Value} {xs : List UInt8} (ho : Own w base 5 v xs) (hg : w.grownBy w' v.ownBlock) : Keeps w w':=fun _ _ _ ht ha => ha.grown ho ht hg
theorem Keeps.lit {w w2 : World} {o : Obj} {base : Nat} {v : Value} {xs : List UInt8} (ho : Own w base 5 v xs) (hg : (w.alloc o).grownBy w2 v.ownBlock) : Keeps w w2 :=
 (Keeps.of_below ((Below.refl _ _).alloc (Nat.le_refl _) _)).trans (Keeps.of_grown (ho.later ((Below.refl _ _).alloc (Nat.le_refl _) _)) hg)
def Ts (w : World) (v : Value) (ts : List Ty) : Prop :=
 ∃ a cap,v = .slice a ts.length cap∧ts.length ≤ cap∧cap ≤ maxLen ∧
  (ts ≠ [] → ∃ b off,a = some ⟨b,off,none⟩∧b < w.heap.size∧∀ i (h : i < ts.length),w.cell? ⟨b,off + i * 4,none⟩ = some (.int .i64 ts[i].1)∧w.cell? ⟨b,off + i * 4 + 1,none⟩ = some (.int .i64 ts[i].2.1) ∧
   w.cell? ⟨b,off + i * 4 + 2,none⟩ = some (.int .i64 ts[i].2.2.1)∧w.cell? ⟨b,off + i * 4 + 3,none⟩ = some (.bool ts[i].2.2.2))

theorem Ts.nil (w : World) : Ts w (.slice none 0 0) []:=⟨none,0,rfl,Nat.le_refl _,Nat.zero_le _,fun h => absurd rfl h⟩
theorem Ts.of_block {w w' : World} {v : Value} {ts : List Ty} (h : Ts w v ts) (hs : w.heap.size ≤ w'.heap.size) (hk : ∀ k,v.ownBlock = some k → k < w.heap.size → w'.heap[k]? = w.heap[k]?) : Ts w' v ts:=by
 obtain ⟨a,cap,rfl,h1,h2,h3⟩:=h
 refine ⟨a,cap,rfl,h1,h2,fun hne => ?_⟩
 obtain ⟨b,off,rfl,hb,hc⟩:=h3 hne
 refine ⟨b,off,rfl,by omega,fun i hi => ?_⟩
 have e : ∀ o,w'.cell? ⟨b,o,none⟩ = w.cell? ⟨b,o,none⟩:=fun o => World.cell?_of_block (hk b rfl hb)
 rw [e,e,e,e]
 exact hc i hi
theorem Ts.below {w w' : World} {v : Value} {ts : List Ty} {B : Nat} (h : Ts w v ts) (hb : Below B w w') (hk : ∀ k,v.ownBlock = some k → k < B) : Ts w' v ts :=
 h.of_block hb.size fun k hv _ => hb.block k (hk k hv)
theorem Ts.later {w w' : World} {v : Value} {ts : List Ty} (h : Ts w v ts) (hb : Below w.heap.size w w') : Ts w' v ts :=
 h.of_block hb.size fun k _ hk => hb.block k hk
theorem Ts.lt {w : World} {v : Value} {ts : List Ty} (h : Ts w v ts) (hne : ts ≠ []) : ∀ g,v.ownBlock = some g → g < w.heap.size:=by
 obtain ⟨a,cap,rfl,_,_,h3⟩:=h
 obtain ⟨b,off,rfl,hb,_⟩:=h3 hne
 intro g hg
 simp [Value.ownBlock] at hg
 omega
theorem Rule.plainT {f : FuncId} {p : Nat} (h : Rule f p) (t : Ty) (ht : mayT p t = true) : plainT t = true:=h.plain t.1 t.2.1 t.2.2.1 t.2.2.2 ht
def sigE (ts : List Ty) (ret : Ty) : Nat:=if 6 < ts.length then 4 else if mayT 3 ret = true∧ts.all (mayT 2) = true then 0 else 17
def locE (ts : List Ty) : Nat:=if 12 < ts.length then 4 else if ts.all (mayT 2) = true then 0 else 17
end Go.Proofs.YtapocgcdjkbnhaaDoor
