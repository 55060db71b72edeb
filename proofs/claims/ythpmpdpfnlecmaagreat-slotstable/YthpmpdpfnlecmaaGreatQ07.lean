/- Texts joined: Conv, Elems, Cls9. -/
import Derived.Test.YthpmpdpfnlecmaaGreatRows
import Derived.Test.YthpmpdpfnlecmaaGreatQ03
import Derived.Deep.RegionLaw
import Derived.Lib.BytesEntry
import Derived.Laws.BytesArg
import Derived.Test.YthpmpdpfnlecmaaGreatQ01
import Derived.Deep.QuietTactic
import Derived.BigQuiet
import Derived.Test.YthpmpdpfnlecmaaGreatQ05
import Derived.Deep.RegionHeld3
import Derived.Deep.DrawnRows
import Derived.Laws.EntriesVeiled
namespace Go.Proofs.YthpmpdpfnlecmaaGreat
set_option linter.unusedVariables false
set_option linter.unusedSimpArgs false
open Go.RowKit Go.Maps
theorem step_append_at {P : Program} {ops : Array Oper} {o : Oper} {a : Act} {w : World} {K : Act → World → Prop} {Q : Exit → Act → World → Prop} {E : Prop} (hg : o.guard = none) (s x : Operand) (t tx : TypeId)
  (ho : o.op = .call { callee := .builtin .append,args:=#[s,x],argTypes:=#[t,tx] }) (base : Nat) (e : TypeId) (z : Value) (bytes : Nat) (ht : P.underlying t = some (.slice e)) (hinfo : (P.info? e).map (fun i => (i.zero,i.size,i.bytes)) = some (some z,1,bytes)) (hzs : z.cells.size = 1)
  {v y : Value} {xs news : List Value} {n : Nat} (hs : a.eval s = v) (hx : a.eval x = y) (hv : OwnV w base e v xs) (hy : Src P 1 tx y n news w) (h63 : xs.length + n ≤ maxLen) (hb : ((xs.length + n) + (xs.length + n) / 4 + 192) * bytes ≤ 281474976710656) (hbase : base ≤ w.heap.size)
  (h : ∀ v' w',OwnV w' base e v' (xs ++ news) → w.grownBy w' v.ownBlock → K (a.put o.dst v') w') : if Region.wanted o (yielded ops a.tmps) = true then Oper.wp P o a w K Q else E:=by
 have hw : Region.wanted o (yielded ops a.tmps) = true:=by simp [Region.wanted,hg]
 rw [if_pos hw]
 obtain ⟨i,hi,hz0,hz1,hz2⟩:=info_parts hinfo
 subst hz2
 obtain ⟨v',w',hr,h2,h3,h4,h5⟩:=run_append_at (P:=P) w base t tx o.type e i z ht hi hz0 hz1 hzs hv hy h63 hb hbase
 unfold Oper.wp execOp
 simp only [ho,resolve,invoke,builtin,Sem.run_bind,Sem.run_pure,Result.andThen_ok,List.map_toArray,List.map_cons,List.map_nil,hs,hx,hr]
 exact h v' w' h2 h3

theorem toList_eq (s : ByteArray) : s.toList = s.data.toList:=Lib.toList_data s
theorem str_eq (s t : ByteArray) : (s.toList == t.toList) = decide (s.data.toList = t.data.toList):=by
 rw [toList_eq,toList_eq]
 generalize s.data.toList = a
 generalize t.data.toList = b
 by_cases h : a = b <;> simp [h]

theorem one_src0 {P : Program} {tx e' : TypeId} (hk : P.underlying tx = some (.slice e')) (w : World) (x : Value) (e : TypeId) (g : Nat) (hg : g = w.heap.size) (h1 : x.oneCell' = true) : Src P 1 tx (.slice (some ⟨g,0,none⟩) 1 1) 1 [x] (w.alloc (Obj.cells #[x] e)):=by
 subst hg
 exact (Sl.made w [x] #[x] e 1 rfl rfl (by simp [maxLen])).src hk (by intro u hu; simp at hu; subst hu; exact h1)
end Go.Proofs.YthpmpdpfnlecmaaGreat

namespace Go.Proofs.YthpmpdpfnlecmaaGreat
set_option linter.unusedVariables false
set_option linter.unusedSimpArgs false
open Go.RowKit
structure Enc (α : Type) where
 cells : α → List Value
 size : Nat
 pos : 0 < size
 len : ∀ x,(cells x).length = size
 one : ∀ x,∀ u ∈ cells x,u.oneCell' = true

def ecL {α : Type} (E : Enc α) (l : List α) : List Value:=l.flatMap E.cells
theorem ecL_length {α : Type} (E : Enc α) (l : List α) : (ecL E l).length = l.length * E.size:=by
 induction l with
 | nil => simp [ecL]
 | cons x r ih =>
  have h : ecL E (x :: r) = E.cells x ++ ecL E r:=by simp [ecL]
  rw [h,List.length_append,E.len,ih,List.length_cons,Nat.add_mul]; omega
theorem ecL_append {α : Type} (E : Enc α) (a b : List α) : ecL E (a ++ b) = ecL E a ++ ecL E b:=by simp [ecL]
theorem ecL_get {α : Type} (E : Enc α) : ∀ (l : List α) (i : Nat) (h : i < l.length) (j : Nat) (hj : j < E.size),(ecL E l)[i * E.size + j]? = (E.cells l[i])[j]?
 | x :: r,0,_,j,hj => by
  have h : ecL E (x :: r) = E.cells x ++ ecL E r:=by simp [ecL]
  rw [h,Nat.zero_mul,Nat.zero_add,List.getElem?_append_left (by rw [E.len]; exact hj)]
  rfl
 | x :: r,i + 1,h,j,hj => by
  have e : ecL E (x :: r) = E.cells x ++ ecL E r:=by simp [ecL]
  rw [e,List.getElem?_append_right (by rw [E.len,Nat.add_mul]; omega),E.len,show (i + 1) * E.size + j - E.size = i * E.size + j by rw [Nat.add_mul]; omega,ecL_get E r i (by simpa using h) j hj]
  rfl
theorem ecL_one {α : Type} (E : Enc α) (l : List α) : ∀ u ∈ ecL E l,u.oneCell' = true:=by
 intro u hu
 simp only [ecL,List.mem_flatMap] at hu
 obtain ⟨x,_,hx⟩:=hu
 exact E.one x u hx

def Es {α : Type} (E : Enc α) (w : World) (v : Value) (l : List α) : Prop :=
 ∃ a cap,v = .slice a l.length cap∧l.length ≤ cap∧cap ≤ maxLen ∧
  (l ≠ [] → ∃ b off,a = some ⟨b,off,none⟩∧b < w.heap.size∧∀ j u,(ecL E l)[j]? = some u → w.cell? ⟨b,off + j,none⟩ = some u)

theorem Es.nil {α : Type} (E : Enc α) (w : World) : Es E w (.slice none 0 0) []:=⟨none,0,rfl,Nat.le_refl _,Nat.zero_le _,fun h => absurd rfl h⟩
theorem Es.len {α : Type} {E : Enc α} {w : World} {v : Value} {l : List α} (h : Es E w v l) : l.length ≤ maxLen:=by
 obtain ⟨a,cap,_,h1,h2,_⟩:=h; omega
theorem Es.shape {α : Type} {E : Enc α} {w : World} {v : Value} {l : List α} (h : Es E w v l) : ∃ a c,v = .slice a l.length c∧l.length ≤ c∧c ≤ maxLen:=by
 obtain ⟨a,c,h1,h2,h3,_⟩:=h
 exact ⟨a,c,h1,h2,h3⟩
theorem Es.of_block {α : Type} {E : Enc α} {w w' : World} {v : Value} {l : List α} (h : Es E w v l) (hs : w.heap.size ≤ w'.heap.size) (hk : ∀ k,v.ownBlock = some k → k < w.heap.size → w'.heap[k]? = w.heap[k]?) : Es E w' v l:=by
 obtain ⟨a,cap,rfl,h1,h2,h3⟩:=h
 refine ⟨a,cap,rfl,h1,h2,fun hne => ?_⟩
 obtain ⟨b,off,rfl,hb,hc⟩:=h3 hne
 refine ⟨b,off,rfl,by omega,fun j u hj => ?_⟩
 rw [← hc j u hj]
 exact World.cell?_of_block (hk b rfl hb)
theorem Es.below {α : Type} {E : Enc α} {w w' : World} {v : Value} {l : List α} {B : Nat} (h : Es E w v l) (hb : Below B w w') (hk : ∀ k,v.ownBlock = some k → k < B) : Es E w' v l :=
 h.of_block hb.size fun k hv _ => hb.block k (hk k hv)
theorem Es.later {α : Type} {E : Enc α} {w w' : World} {v : Value} {l : List α} (h : Es E w v l) (hb : Below w.heap.size w w') : Es E w' v l :=
 h.of_block hb.size fun k _ hk => hb.block k hk
def El {α : Type} (E : Enc α) (w : World) (b o : Nat) (x : α) : Prop := ∀ j u,(E.cells x)[j]? = some u → w.cell? ⟨b,o + j,none⟩ = some u
theorem El.below {α : Type} {E : Enc α} {w w' : World} {b o B : Nat} {x : α} (h : El E w b o x) (hb : Below B w w') (hB : b < B) : El E w' b o x :=
 fun j u hj => by rw [← h j u hj]; exact hb.cell (p:=⟨b,o + j,none⟩) hB
theorem Es.parts {α : Type} {E : Enc α} {w : World} {v : Value} {l : List α} (h : Es E w v l) (hne : l ≠ []) : ∃ b off cap,v = .slice (some ⟨b,off,none⟩) l.length cap∧l.length ≤ cap∧cap ≤ maxLen∧b < w.heap.size∧∀ i (hi : i < l.length),El E w b (off + i * E.size) l[i]:=by
 obtain ⟨a,cap,rfl,h1,h2,h3⟩:=h
 obtain ⟨b,off,rfl,hb,hc⟩:=h3 hne
 refine ⟨b,off,cap,rfl,h1,h2,hb,fun i hi j u hj => ?_⟩
 have hjs : j < E.size:=by rw [← E.len l[i]]; exact (List.getElem?_eq_some_iff.1 hj).1
 rw [Nat.add_assoc]
 exact hc _ _ (by rw [ecL_get E l i hi j hjs]; exact hj)
theorem Es.of_parts {α : Type} {E : Enc α} {w : World} {b off cap : Nat} {l : List α} (h1 : l.length ≤ cap) (h2 : cap ≤ maxLen) (hb : b < w.heap.size) (h : ∀ i (hi : i < l.length),El E w b (off + i * E.size) l[i]) : Es E w (.slice (some ⟨b,off,none⟩) l.length cap) l:=by
 refine ⟨_,_,rfl,h1,h2,fun _ => ⟨b,off,rfl,hb,fun j u hj => ?_⟩⟩
 have hjl : j < l.length * E.size:=by rw [← ecL_length]; exact (List.getElem?_eq_some_iff.1 hj).1
 have hq : j / E.size < l.length:=by rw [Nat.div_lt_iff_lt_mul E.pos]; exact hjl
 have hr : j % E.size < E.size:=Nat.mod_lt _ E.pos
 have he : j / E.size * E.size + j % E.size = j:=by rw [Nat.mul_comm]; exact Nat.div_add_mod j E.size
 have hg:=ecL_get E l (j / E.size) hq (j % E.size) hr
 rw [he] at hg
 rw [hg] at hj
 have:=h _ hq _ _ hj
 rwa [Nat.add_assoc,he] at this

def OwnE {α : Type} (E : Enc α) (w : World) (base : Nat) (t : TypeId) (v : Value) (l : List α) : Prop:=w.ownsRow base t E.size v l.length (ecL E l)

theorem OwnE.es {α : Type} {E : Enc α} {w : World} {base : Nat} {t : TypeId} {v : Value} {l : List α} (h : OwnE E w base t v l) : Es E w v l:=by
 obtain ⟨h1,h2⟩:=h
 rcases h2 with ⟨rfl,h0⟩ | ⟨g,cap,cur,rfl,hg,hh,hn,hm,hs,ht⟩
 ·have : l = []:=List.eq_nil_of_length_eq_zero h0
  subst this; exact Es.nil E w
 ·refine ⟨_,cap,rfl,hn,hm,fun _ => ⟨g,0,rfl,(Array.getElem?_eq_some_iff.1 hh).1,fun j u hj => ?_⟩⟩
  have hjl : j < l.length * E.size:=by rw [← ecL_length]; exact (List.getElem?_eq_some_iff.1 hj).1
  rw [← ht,List.getElem?_take,if_pos (by omega)] at hj
  simp only [World.cell?,hh,Nat.zero_add]
  simpa using hj
theorem OwnE.shape {α : Type} {E : Enc α} {w : World} {base : Nat} {t : TypeId} {v : Value} {l : List α} (h : OwnE E w base t v l) : ∃ a c,v = .slice a l.length c∧l.length ≤ c∧c ≤ maxLen:=h.es.shape
theorem OwnE.block {α : Type} {E : Enc α} {w : World} {base : Nat} {t : TypeId} {v : Value} {l : List α} (h : OwnE E w base t v l) : ∀ k,v.ownBlock = some k → base ≤ k∧k < w.heap.size:=World.ownsRow.lt h
theorem OwnE.of_block {α : Type} {E : Enc α} {w w' : World} {base : Nat} {t : TypeId} {v : Value} {l : List α} (h : OwnE E w base t v l) (hb : ∀ k,v.ownBlock = some k → k < w.heap.size → w'.heap[k]? = w.heap[k]?) : OwnE E w' base t v l:=by
 obtain ⟨h1,h2⟩:=h
 refine ⟨h1, ?_⟩
 rcases h2 with h2 | ⟨g,cap,cur,rfl,hg,hh,r⟩
 ·exact Or.inl h2
 ·exact Or.inr ⟨g,cap,cur,rfl,hg,by rw [hb g rfl (Array.getElem?_eq_some_iff.1 hh).1]; exact hh,r⟩
theorem OwnE.later {α : Type} {E : Enc α} {w w' : World} {base : Nat} {t : TypeId} {v : Value} {l : List α} (h : OwnE E w base t v l) (hb : Below w.heap.size w w') : OwnE E w' base t v l :=
 h.of_block fun k _ hk => hb.block k hk
theorem OwnE.mono {α : Type} {E : Enc α} {w : World} {base base' : Nat} {t : TypeId} {v : Value} {l : List α} (h : OwnE E w base t v l) (hb : base' ≤ base) : OwnE E w base' t v l:=by
 obtain ⟨h1,h2⟩:=h
 refine ⟨h1, ?_⟩
 rcases h2 with h2 | ⟨g,cap,cur,rfl,hg,r⟩
 ·exact Or.inl h2
 ·exact Or.inr ⟨g,cap,cur,rfl,Nat.le_trans hb hg,r⟩
theorem OwnE.nil {α : Type} (E : Enc α) (w : World) (base : Nat) (t : TypeId) : OwnE E w base t (.slice none 0 0) []:=World.ownsRow_nil w base t E.size
theorem OwnE.lit {α : Type} (E : Enc α) (w : World) (base : Nat) (t : TypeId) (l : List α) (C : Array Value) (n : Nat) (hb : base ≤ w.heap.size) (hC : C = (ecL E l).toArray) (hn : n = l.length) (hm : l.length ≤ maxLen) :
  OwnE E (w.alloc (.cells C t)) base t (.slice (some ⟨w.heap.size,0,none⟩) n n) l:=by
 subst hC hn
 have:=World.ownsRow_lit (base:=base) (e:=t) (size:=E.size) w (ecL E l).toArray l.length hb hm (by simp [ecL_length])
 unfold OwnE
 simpa using this
theorem grown_belowE {α : Type} {E : Enc α} {w w' : World} {base B : Nat} {t : TypeId} {v : Value} {l : List α} (ho : OwnE E w base t v l) (hg : w.grownBy w' v.ownBlock) (hB : B ≤ base) (hs : B ≤ w.heap.size) : Below B w w' :=
 ⟨hg.os,hg.tape,hg.output,hg.size,fun k hk => hg.block k (by omega) (fun e => by have:=ho.block k e.symm; omega)⟩

theorem run_append_es {α : Type} (E : Enc α) {P : Program} (w : World) (base : Nat) (ts ty t : TypeId) (z : Value) (bytes : Nat) (ht : P.underlying ts = some (.slice t)) (hinfo : (P.info? t).map (fun i => (i.zero,i.size,i.bytes)) = some (some z,E.size,bytes)) (hzs : z.cells.size = E.size)
  {v y : Value} {xs ys : List α} (hv : OwnE E w base t v xs) (hy : Es E w y ys) (hb : xs.length + ys.length ≤ maxLen) (hby : ((xs.length + ys.length) + (xs.length + ys.length) / 4 + 192) * bytes ≤ 281474976710656) (hbase : base ≤ w.heap.size) :
  ∃ v' w',(Builtin.append_ #[ts,ts] ty #[v,y]).run P w = .ok v' w'∧OwnE E w' base t v' (xs ++ ys)∧w.grownBy w' v.ownBlock:=by
 obtain ⟨i,hi,hz0,hz1,hz2⟩:=info_parts hinfo
 obtain ⟨a,cap,rfl,h1,h2,h3⟩:=id hy
 cases a with
 | none =>
  have hys : ys = []:=by
   by_cases h : ys = []
   ·exact h
   ·obtain ⟨b,off,hh,_⟩:=h3 h; simp at hh
  subst hys
  refine ⟨v,w, ?_,by simpa using hv,⟨rfl,rfl,rfl,Nat.le_refl _,fun _ _ _ => rfl⟩⟩
  rcases hv.2 with ⟨rfl,h0⟩ | ⟨g,cp,cur,rfl,_,_,hnc,_⟩
  ·simp [Builtin.append_,run_underlying ht,sizeOf,typeInfo,hi,Builtin.lenOf,Builtin.firstCells]
  ·simp [Builtin.append_,run_underlying ht,sizeOf,typeInfo,hi,Builtin.lenOf,Builtin.firstCells,hnc,storeCells]
 | some ad =>
  have hnews : ∀ j u,(ecL E ys)[j]? = some u → w.cell? (ad.add j) = some u:=by
   intro j u hj
   have hne : ys ≠ []:=by intro e; subst e; simp [ecL] at hj
   obtain ⟨b,off,hh,_,hc⟩:=h3 hne
   simp only [Option.some.injEq] at hh
   subst hh
   have hplain : (⟨b,off,none⟩ : Addr).add j = ⟨b,off + j,none⟩:=by unfold Addr.add; split <;> simp_all
   rw [hplain]
   exact hc j u hj
  obtain ⟨v',w',hr,ho,hg,_⟩:=run_append_own_wide (P:=P) w base ts ty t i z E.size bytes ht hi hz0 hz1 hz2 hzs E.pos v xs.length (ecL E xs) hv ad ys.length cap (ecL E ys) (ecL_length E ys) hnews
   (ecL_one E ys) hb hby hbase
  refine ⟨v',w',hr, ?_,hg⟩
  unfold OwnE
  rw [List.length_append,ecL_append]
  exact ho

theorem wpList_append_es {α : Type} (E : Enc α) {P : Program} {w : World} {ops : Array Oper} {rest : List Oper} {o : Oper} {a : Act} {Q : Exit → Act → World → Prop} (hw : Region.wanted o (yielded ops a.tmps) = true) (s x : Operand) (ts : TypeId)
  (ho : o.op = .call { callee := .builtin .append,args:=#[s,x],argTypes:=#[ts,ts] }) (base : Nat) (t : TypeId) (z : Value) (bytes : Nat) (ht : P.underlying ts = some (.slice t)) (hinfo : (P.info? t).map (fun i => (i.zero,i.size,i.bytes)) = some (some z,E.size,bytes)) (hzs : z.cells.size = E.size)
  {v y : Value} {xs ys : List α} (hs : a.eval s = v) (hx : a.eval x = y) (hv : OwnE E w base t v xs) (hy : Es E w y ys) (hb : xs.length + ys.length ≤ maxLen) (hby : ((xs.length + ys.length) + (xs.length + ys.length) / 4 + 192) * bytes ≤ 281474976710656) (hbase : base ≤ w.heap.size)
  (h : ∀ v' w',OwnE E w' base t v' (xs ++ ys) → w.grownBy w' v.ownBlock → wpList P ops Q rest (a.put o.dst v') w') : wpList P ops Q (o :: rest) a w:=by
 refine wpList_want hw fun K hK => ?_
 obtain ⟨v',w',hr,h2,h3⟩:=run_append_es E w base ts o.type t z bytes ht hinfo hzs hv hy hb hby hbase
 unfold Oper.wp execOp
 simp only [ho,resolve,invoke,builtin,Sem.run_bind,Sem.run_pure,Result.andThen_ok,List.map_toArray,List.map_cons,List.map_nil,hs,hx,hr]
 exact hK _ _ (h v' w' h2 h3)

theorem ecL_take {α : Type} (E : Enc α) (l : List α) (n : Nat) : ∀ (j : Nat) (u : Value),(ecL E (l.take n))[j]? = some u → (ecL E l)[j]? = some u:=by
 intro j u hj
 have h : ecL E l = ecL E (l.take n) ++ ecL E (l.drop n):=by rw [← ecL_append,List.take_append_drop]
 rw [h,List.getElem?_append_left (List.getElem?_eq_some_iff.1 hj).1]
 exact hj
theorem ecL_drop {α : Type} (E : Enc α) (l : List α) (n : Nat) (hn : n ≤ l.length) : ∀ (j : Nat) (u : Value),(ecL E (l.drop n))[j]? = some u → (ecL E l)[n * E.size + j]? = some u:=by
 intro j u hj
 have h : ecL E l = ecL E (l.take n) ++ ecL E (l.drop n):=by rw [← ecL_append,List.take_append_drop]
 have hl : (ecL E (l.take n)).length = n * E.size:=by rw [ecL_length,List.length_take,Nat.min_eq_left hn]
 rw [h,List.getElem?_append_right (by omega),hl,Nat.add_sub_cancel_left]
 exact hj

theorem slice_toE {α : Type} {E : Enc α} {P : Program} {w : World} {a : Option Addr} {cap : Nat} {l : List α} (hv : Es E w (.slice a l.length cap) l) (n : Nat) (h : n ≤ l.length) (ts t : TypeId) (ht : P.underlying ts = some (.slice t)) (hs : (P.info? t).map (·.size) = some E.size) :
  (∀ (W : World) (k : IntKind),(Instr.slice ts (.slice a l.length cap) none (some (.int k (n : Int))) none).run P W = .ok (.slice a n cap) W)∧Es E w (.slice a n cap) (l.take n):=by
 obtain ⟨a0,c0,he,h1,h2,h3⟩:=hv
 simp only [Value.slice.injEq] at he
 obtain ⟨rfl,_,rfl⟩:=he
 have hl : (l.take n).length = n:=by rw [List.length_take,Nat.min_eq_left h]
 refine ⟨fun W k => ?_,⟨a,cap,by rw [hl],by omega,h2,fun hne => ?_⟩⟩
 ·cases hq : P.info? t with
  | none => simp [hq] at hs
  | some i =>
   have hi : i.size = E.size:=by simpa [hq] using hs
   have b1 : (Instr.sliceBound (.int k (n : Int)) cap .sliceAcap).run P W = .ok n W:=by rw [run_sliceBound _ _ _ _ _ (by omega) (by omega)]; simp
   have b2 : (Instr.sliceBound (.int .i64 0) n .sliceB).run P W = .ok 0 W:=by rw [run_sliceBound _ _ _ _ _ (by omega) (by omega)]; simp
   have hadd : ∀ x : Addr,x.add 0 = x:=fun x => by unfold Addr.add; cases x with | mk b o d => split <;> simp_all
   have hmap : Option.map (fun x : Addr => x.add 0) a = a:=by cases a <;> simp [hadd]
   simp [Instr.slice,run_underlying ht,Instr.sliceBounds,b1,b2,sizeOf,typeInfo,hq,hi,hmap]
 ·have hne' : l ≠ []:=by intro e; subst e; simp at hne
  obtain ⟨b,off,rfl,hb,hc⟩:=h3 hne'
  exact ⟨b,off,rfl,hb,fun j u hj => hc j u (ecL_take E l n j u hj)⟩

theorem slice_fromE {α : Type} {E : Enc α} {P : Program} {w : World} {a : Option Addr} {cap : Nat} {l : List α} (hv : Es E w (.slice a l.length cap) l) (n : Nat) (h : n ≤ l.length) (ts t : TypeId) (ht : P.underlying ts = some (.slice t)) (hs : (P.info? t).map (·.size) = some E.size) :
  ∃ a' cap',(∀ (W : World) (k : IntKind),(Instr.slice ts (.slice a l.length cap) (some (.int k (n : Int))) none none).run P W = .ok (.slice a' (l.length - n) cap') W)∧Es E w (.slice a' (l.length - n) cap') (l.drop n) ∧
   (∀ k,(Value.slice a' (l.length - n) cap').ownBlock = some k → (Value.slice a l.length cap).ownBlock = some k)∧(∀ b off,a = some ⟨b,off,none⟩ → n < l.length → a' = some ⟨b,off + n * E.size,none⟩):=by
 obtain ⟨a0,c0,he,h1,h2,h3⟩:=hv
 simp only [Value.slice.injEq] at he
 obtain ⟨rfl,_,rfl⟩:=he
 have hplain : ∀ b off j,(⟨b,off,none⟩ : Addr).add j = ⟨b,off + j,none⟩:=fun b off j => by unfold Addr.add; split <;> simp_all
 refine ⟨if cap = n then a else a.map (·.add (n * E.size)),cap - n, ?_,⟨_,_,by rw [List.length_drop],by rw [List.length_drop]; omega,by omega, ?_⟩, ?_, ?_⟩
 ·intro W k
  cases hq : P.info? t with
  | none => simp [hq] at hs
  | some i =>
   have hi : i.size = E.size:=by simpa [hq] using hs
   have b1 : (Instr.sliceBound (.int .i64 (l.length : Int)) cap .sliceAcap).run P W = .ok l.length W:=by rw [run_sliceBound _ _ _ _ _ (by omega) (by omega)]; simp
   have b2 : (Instr.sliceBound (.int k (n : Int)) l.length .sliceB).run P W = .ok n W:=by rw [run_sliceBound _ _ _ _ _ (by omega) (by omega)]; simp
   simp [Instr.slice,run_underlying ht,Instr.sliceBounds,b1,b2,sizeOf,typeInfo,hq,hi]
 ·intro hne
  have hlt : n < l.length:=by
   rcases Nat.lt_or_ge n l.length with g | g
   ·exact g
   ·exact absurd (List.drop_eq_nil_of_le g) hne
  obtain ⟨b,off,rfl,hb,hc⟩:=h3 (by intro e; subst e; simp at hlt)
  refine ⟨b,off + n * E.size, ?_,hb,fun j u hj => ?_⟩
  ·rw [if_neg (by omega)]; simp [hplain]
  ·rw [Nat.add_assoc]; exact hc _ u (ecL_drop E l n h j u hj)
 ·intro k hk
  split at hk
  ·cases a with
   | none => simp [Value.ownBlock] at hk
   | some ad => exact hk
  ·cases a with
   | none => simp [Value.ownBlock] at hk
   | some ad =>
    cases ad with
    | mk b o d =>
     simp only [Option.map_some,Value.ownBlock] at hk ⊢
     unfold Addr.add at hk
     split at hk <;> simp_all
 ·rintro b off rfl hlt
  rw [if_neg (by omega)]; simp [hplain]
end Go.Proofs.YthpmpdpfnlecmaaGreat

namespace Go.Proofs.YthpmpdpfnlecmaaGreat
set_option linter.unusedVariables false
set_option linter.unusedSimpArgs false
open Go.RowKit
attribute [local go_sem ↓] Go.wp_at_zero Go.wp_at_succ
def clC (c : Cl) : List Value := [.int .i64 c.k,.int .i64 c.tf,.int .i64 c.tt,.int .i64 c.hf,.int .i64 c.ht,.int .i64 c.fi,.int .i64 c.t0,.int .i64 c.t1,.int .i64 c.t2,.bool c.t3]
def clE9 : Enc Cl:=⟨clC,10,by decide,fun _ => rfl,fun x u hu => by
 simp only [clC,List.mem_cons,List.not_mem_nil,or_false] at hu
 rcases hu with rfl | rfl | rfl | rfl | rfl | rfl | rfl | rfl | rfl | rfl <;> rfl⟩
def spC (s : Sp) : List Value := [.int .i64 s.1,.int .i64 s.2]
def spE : Enc Sp:=⟨spC,2,by decide,fun _ => rfl,fun x u hu => by
 simp only [spC,List.mem_cons,List.not_mem_nil,or_false] at hu
 rcases hu with rfl | rfl <;> rfl⟩

def clV (c : Cl) : Value := .agg #[.int .i64 c.k,.int .i64 c.tf,.int .i64 c.tt,.int .i64 c.hf,.int .i64 c.ht,.int .i64 c.fi,.int .i64 c.t0,.int .i64 c.t1,.int .i64 c.t2,.bool c.t3]
def spV9 (s : Sp) : Value := .agg #[.int .i64 s.1,.int .i64 s.2]

def Ten (w : World) (b o : Nat) (c : Cl) : Prop:=w.cell? ⟨b,o,none⟩ = some (.int .i64 c.k)∧w.cell? ⟨b,o + 1,none⟩ = some (.int .i64 c.tf)∧w.cell? ⟨b,o + 2,none⟩ = some (.int .i64 c.tt)∧w.cell? ⟨b,o + 3,none⟩ = some (.int .i64 c.hf) ∧
 w.cell? ⟨b,o + 4,none⟩ = some (.int .i64 c.ht)∧w.cell? ⟨b,o + 5,none⟩ = some (.int .i64 c.fi)∧w.cell? ⟨b,o + 6,none⟩ = some (.int .i64 c.t0)∧w.cell? ⟨b,o + 7,none⟩ = some (.int .i64 c.t1)∧w.cell? ⟨b,o + 8,none⟩ = some (.int .i64 c.t2)∧w.cell? ⟨b,o + 9,none⟩ = some (.bool c.t3)
def Two9 (w : World) (b o : Nat) (s : Sp) : Prop:=w.cell? ⟨b,o,none⟩ = some (.int .i64 s.1)∧w.cell? ⟨b,o + 1,none⟩ = some (.int .i64 s.2)
theorem El.ten {w : World} {b o : Nat} {c : Cl} (h : El clE9 w b o c) : Ten w b o c :=
 ⟨h 0 _ rfl,h 1 _ rfl,h 2 _ rfl,h 3 _ rfl,h 4 _ rfl,h 5 _ rfl,h 6 _ rfl,h 7 _ rfl,h 8 _ rfl,h 9 _ rfl⟩
theorem El.two {w : World} {b o : Nat} {s : Sp} (h : El spE w b o s) : Two9 w b o s:=⟨h 0 _ rfl,h 1 _ rfl⟩

theorem triedBy_any (c : Cl) (w : World) :
  Calls Tryz.prog 245 #[clV c] w fun e w' => e = .returned (spV9 (triS c))∧Below w.heap.size w w':=by
 unfold clV
 have hb0 : Hid (Below w.heap.size w (w.alloc (.cells (clC c).toArray 101))):=(Below.refl _ _).alloc (Nat.le_refl _) _
 go_enter Tryz.func245,Tryz.ntmps245
 go_wp2
 exact bodyPost_ret (v:=spV9 (triS c)) (by simp [results,Tryz.results245,go_sem,spV9,triS]) rfl ⟨rfl,hb0.out.alloc (by simp) _⟩
theorem handledBy_any (c : Cl) (w : World) :
  Calls Tryz.prog 246 #[clV c] w fun e w' => e = .returned (spV9 (hanS c))∧Below w.heap.size w w':=by
 unfold clV
 have hb0 : Hid (Below w.heap.size w (w.alloc (.cells (clC c).toArray 101))):=(Below.refl _ _).alloc (Nat.le_refl _) _
 go_enter Tryz.func246,Tryz.ntmps246
 go_wp2
 exact bodyPost_ret (v:=spV9 (hanS c)) (by simp [results,Tryz.results246,go_sem,spV9,hanS]) rfl ⟨rfl,hb0.out.alloc (by simp) _⟩
theorem filterOf_any (c : Cl) (w : World) :
  Calls Tryz.prog 247 #[clV c] w fun e w' => e = .returned (spV9 (filS c))∧Below w.heap.size w w':=by
 unfold clV
 have hb0 : Hid (Below w.heap.size w (w.alloc (.cells (clC c).toArray 101))):=(Below.refl _ _).alloc (Nat.le_refl _) _
 go_enter Tryz.func247,Tryz.ntmps247
 go_wp2
 exact bodyPost_ret (v:=spV9 (filS c)) (by simp [results,Tryz.results247,go_sem,spV9,filS]) rfl ⟨rfl,hb0.out.alloc (by simp) _⟩
theorem isPartOf_any (s o : Sp) (w : World) :
  Calls Tryz.prog 253 #[spV9 s,spV9 o] w fun e w' => e = .returned (.bool (partB s o))∧Below w.heap.size w w':=by
 have hb0 : Hid (Below w.heap.size w ((w.alloc (.cells (spC s).toArray 202)).alloc (.cells (spC o).toArray 202))):=((Below.refl _ _).alloc (Nat.le_refl _) _).alloc (by simp) _
 unfold spV9
 go_enter Tryz.func253,Tryz.ntmps253
 go_wp2
 all_goals go_ret
 all_goals refine ⟨ret_bool ?_,hb0.out⟩
 all_goals (simp_all [partB] <;> omega)
theorem shares9_any (s o : Sp) (w : World) :
  Calls Tryz.prog 254 #[spV9 s,spV9 o] w fun e w' => e = .returned (.bool (shrB s o))∧Below w.heap.size w w':=by
 have hb0 : Hid (Below w.heap.size w ((w.alloc (.cells (spC s).toArray 202)).alloc (.cells (spC o).toArray 202))):=((Below.refl _ _).alloc (Nat.le_refl _) _).alloc (by simp) _
 unfold spV9
 go_enter Tryz.func254,Tryz.ntmps254
 go_wp2
 all_goals go_ret
 all_goals refine ⟨ret_bool ?_,hb0.out⟩
 all_goals (rw [Bool.eq_iff_iff,shr_iff]; simp only [decide_eq_true_eq]; (repeat' split) <;> omega)

theorem bstep {w w1 w2 : World} (h : Below w.heap.size w w1) (h2 : Below w1.heap.size w1 w2) : Below w.heap.size w w2:=h.trans (h2.mono h.size)
theorem bdrew (w : World) : Below w.heap.size w w.drew:=Below.drewN (Below.refl w.heap.size w) 1
theorem bbox {w w1 : World} (h : Below w.heap.size w w1) (o : Obj) : Below w.heap.size w (w1.alloc o):=h.alloc h.size o

theorem Tryz.infoSpan : (Tryz.prog.info? 202).map (fun i => (i.zero,i.size,i.bytes)) = some (some (.agg #[.int .i64 0,.int .i64 0]),2,16):=by kernel_rfl

theorem At.ten {w : World} {g : Nat} {c : Cl} (h : At w g (clC c).toArray 101) : Ten w g 0 c :=
 ⟨h.cell 0,h.cell 1,h.cell 2,h.cell 3,h.cell 4,h.cell 5,h.cell 6,h.cell 7,h.cell 8,h.cell 9⟩

set_option maxHeartbeats 1000000 in
theorem spansOf_any (c : Cl) (w : World) :
  Calls Tryz.prog 228 #[clV c] w fun e w' => ∃ v,e = .returned v∧OwnE spE w' w.heap.size 202 v (spansL c)∧Below w.heap.size w w':=by
 obtain ⟨w0,hw0⟩ : ∃ W,W = w.alloc (.cells #[.int .i64 c.k,.int .i64 c.tf,.int .i64 c.tt,.int .i64 c.hf,.int .i64 c.ht,.int .i64 c.fi,.int .i64 c.t0,.int .i64 c.t1,.int .i64 c.t2,.bool c.t3] 101):=⟨_,rfl⟩
 have HW0 : Hid (w0 = _):=hw0
 have HB0 : Hid (Below w.heap.size w w0):=by rw [hw0]; exact (Below.refl _ _).alloc (Nat.le_refl _) _
 have hA : At w0 w.heap.size (clC c).toArray 101:=by rw [hw0]; exact At.made w (clC c).toArray _
 have HK : Hid (∀ w',Below w0.heap.size w0 w' → Ten w' w.heap.size 0 c):=fun w' hb => (hA.later hb).ten
 have HA : Hid (At w0 w.heap.size (clC c).toArray 101):=hA
 have HV : Hid (∀ w',Below w.heap.size w w' → OwnE spE (w'.alloc (.cells #[.int .i64 c.tf,.int .i64 c.tt,.int .i64 c.hf,.int .i64 c.ht] 202)) w.heap.size 202 (.slice (some ⟨w'.heap.size,0,none⟩) 2 2) [triS c,hanS c]):=fun w' hb => OwnE.lit spE w' w.heap.size 202 [triS c,hanS c] _ 2 hb.size rfl rfl (by simp [maxLen])
 have HT : Hid _:=hA.ten
 clear hA hw0
 unfold clV
 go_enter Tryz.func228,Tryz.ntmps228
 go_wp2_with fail
 rw [← HW0.out]
 obtain ⟨c0,c1,c2,c3,c4,c5,c6,c7,c8,c9⟩:=HT.out
 have HTR : Hid (∀ W,Calls Tryz.prog 245 #[.agg #[.int .i64 c.k,.int .i64 c.tf,.int .i64 c.tt,.int .i64 c.hf,.int .i64 c.ht,.int .i64 c.fi,.int .i64 c.t0,.int .i64 c.t1,.int .i64 c.t2,.bool c.t3]] W fun e w' => e = .returned (.agg #[.int .i64 c.tf,.int .i64 c.tt])∧Below W.heap.size W w'):=fun W => triedBy_any c W
 have HHA : Hid (∀ W,Calls Tryz.prog 246 #[.agg #[.int .i64 c.k,.int .i64 c.tf,.int .i64 c.tt,.int .i64 c.hf,.int .i64 c.ht,.int .i64 c.fi,.int .i64 c.t0,.int .i64 c.t1,.int .i64 c.t2,.bool c.t3]] W fun e w' => e = .returned (.agg #[.int .i64 c.hf,.int .i64 c.ht])∧Below W.heap.size W w'):=fun W => handledBy_any c W
 have HFI : Hid (∀ W,Calls Tryz.prog 247 #[.agg #[.int .i64 c.k,.int .i64 c.tf,.int .i64 c.tt,.int .i64 c.hf,.int .i64 c.ht,.int .i64 c.fi,.int .i64 c.t0,.int .i64 c.t1,.int .i64 c.t2,.bool c.t3]] W fun e w' => e = .returned (.agg #[.int .i64 c.fi,.int .i64 c.hf])∧Below W.heap.size W w'):=fun W => filterOf_any c W
 go_region_held3 (fun w' => w'.cell? ⟨w.heap.size,0,none⟩ = some (.int .i64 c.k)∧w'.cell? ⟨w.heap.size,1,none⟩ = some (.int .i64 c.tf)∧w'.cell? ⟨w.heap.size,2,none⟩ = some (.int .i64 c.tt)∧w'.cell? ⟨w.heap.size,3,none⟩ = some (.int .i64 c.hf)∧w'.cell? ⟨w.heap.size,4,none⟩ = some (.int .i64 c.ht)∧w'.cell? ⟨w.heap.size,5,none⟩ = some (.int .i64 c.fi)∧w'.cell? ⟨w.heap.size,6,none⟩ = some (.int .i64 c.t0)∧w'.cell? ⟨w.heap.size,7,none⟩ = some (.int .i64 c.t1)∧w'.cell? ⟨w.heap.size,8,none⟩ = some (.int .i64 c.t2)∧w'.cell? ⟨w.heap.size,9,none⟩ = some (.bool c.t3))
  (first | (exact HK.out _ (bdrew _)) | (exact HK.out _ (bstep (bdrew _) hb1)) | (exact HK.out _ (bstep (bstep (bdrew _) hb1) hb2)) | (exact HK.out _ (bbox (bstep (bstep (bdrew _) hb1) hb2) _)))
  (first | (go_at_call 245; refine (HTR.out _).mono ?_; rintro e w1 ⟨rfl,hb1⟩) | (go_at_call 246; refine (HHA.out _).mono ?_; rintro e w2 ⟨rfl,hb2⟩))
 rename_i hheld
 clear hheld
 have hb2':=bstep (bstep (bdrew _) hb1) hb2
 obtain ⟨w3,hw3⟩ : ∃ W,W = w2.alloc (.cells #[.int .i64 c.tf,.int .i64 c.tt,.int .i64 c.hf,.int .i64 c.ht] 202):=⟨_,rfl⟩
 have HW3 : Hid (w3 = _):=hw3
 have hb3 : Below w0.heap.size w0 w3:=by rw [hw3]; exact bbox hb2' _
 have HO3 : Hid (OwnE spE w3 w.heap.size 202 (.slice (some ⟨w2.heap.size,0,none⟩) 2 2) [triS c,hanS c]):=by
  rw [hw3]; exact HV.out w2 (bstep HB0.out hb2')
 have HB3 : Hid (Below w.heap.size w w3):=bstep HB0.out hb3
 replace HT : Hid _:=HK.out w3 hb3
 have HK3 : Hid (∀ w',Below w3.heap.size w3 w' → Ten w' w.heap.size 0 c):=fun w' hb => HK.out w' (bstep hb3 hb)
 clear hw3 hb1 hb2 hb2' hb3 c0 c1 c2 c3 c4 c5 c6 c7 c8 c9
 obtain ⟨c0,c1,c2,c3,c4,c5,c6,c7,c8,c9⟩:=HT.out
 rw [← HW3.out]
 by_cases hk : c.k = 2
 ·have HS : Hid (spansL c = [triS c,hanS c] ++ [filS c]):=by show _ = _; unfold spansL; rw [if_pos hk]; rfl
  have hk' : (c.k == 2) = true:=by rw [hk]; rfl
  have HV4 : Hid (∀ w' : World,Es spE (w'.alloc (.cells #[.int .i64 c.fi,.int .i64 c.hf] 202)) (.slice (some ⟨w'.heap.size,0,none⟩) 1 1) [filS c]):=fun w' => (OwnE.lit spE w' w'.heap.size 202 [filS c] _ 1 (Nat.le_refl _) rfl rfl (by simp [maxLen])).es
  clear hk
  go_wp2_with fail
  refine (HFI.out _).mono ?_
  rintro e w4 ⟨rfl,hb4⟩
  have HB4 : Hid (Below w3.heap.size w3 w4):=hb4
  have HO4 : Hid (OwnE spE (w4.alloc (.cells #[.int .i64 c.fi,.int .i64 c.hf] 202)) w.heap.size 202 (.slice (some ⟨w2.heap.size,0,none⟩) 2 2) [triS c,hanS c]):=HO3.out.later (bbox hb4 _)
  have HSZ : Hid (w.heap.size ≤ (w4.alloc (.cells #[.int .i64 c.fi,.int .i64 c.hf] 202)).heap.size):=(bbox (bstep HB3.out hb4) _).size
  clear hb4 c0 c1 c2 c3 c4 c5 c6 c7 c8 c9
  go_wp2_with (at_builtin; go_must (refine wpList_append_es spE rfl (.tmp 12) (.tmp 15) 187 rfl w.heap.size 202 _ 16 Tryz.underlying187 Tryz.infoSpan rfl rfl rfl HO4.out (HV4.out w4) (by simp [maxLen]) (by simp) HSZ.out ?_; intro v5 w5 ho5 hg5))
  go_ret
  refine ⟨v5,rfl,by rw [HS.out]; exact ho5, ?_⟩
  exact (bbox (bstep HB3.out HB4.out) _).trans (grown_belowE HO4.out hg5 (Nat.le_refl _) HSZ.out)
 ·have HS : Hid (spansL c = [triS c,hanS c]):=by show _ = _; unfold spansL; rw [if_neg hk]
  have hk' : (c.k == 2) = false:=by rw [beq_eq_false_iff_ne]; exact hk
  clear hk
  go_wp2_with fail
  go_ret
  exact ⟨_,rfl,by rw [HS.out]; exact HO3.out,HB3.out⟩
end Go.Proofs.YthpmpdpfnlecmaaGreat
