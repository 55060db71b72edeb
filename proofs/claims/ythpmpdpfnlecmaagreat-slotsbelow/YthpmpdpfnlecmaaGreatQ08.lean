/- Texts joined: Im10, Contains9, All9. -/
import Derived.Test.YthpmpdpfnlecmaaGreatQ06
import Derived.Test.YthpmpdpfnlecmaaGreatQ07
namespace Go.Proofs.YthpmpdpfnlecmaaGreat
set_option linter.unusedVariables false
set_option linter.unusedSimpArgs false
open Go.RowKit
def tyC (x : Ty) : List Value := [.int .i64 x.1,.int .i64 x.2.1,.int .i64 x.2.2.1,.bool x.2.2.2]
def tyE : Enc Ty:=⟨tyC,4,by decide,fun _ => rfl,fun x u hu => by
 simp only [tyC,List.mem_cons,List.not_mem_nil,or_false] at hu
 rcases hu with rfl | rfl | rfl | rfl <;> rfl⟩
def insC (x : Ins) : List Value := [.int .i64 x.1,.int .i64 x.2.1,.int .i64 x.2.2.1,.int .i64 x.2.2.2.1,.int .i64 x.2.2.2.2.1,.bool x.2.2.2.2.2]
def insE : Enc Ins:=⟨insC,6,by decide,fun _ => rfl,fun x u hu => by
 simp only [insC,List.mem_cons,List.not_mem_nil,or_false] at hu
 rcases hu with rfl | rfl | rfl | rfl | rfl | rfl <;> rfl⟩
def intC (x : Int) : List Value := [.int .i64 x]
def intE : Enc Int:=⟨intC,1,by decide,fun _ => rfl,fun x u hu => by
 simp only [intC,List.mem_cons,List.not_mem_nil,or_false] at hu
 rcases hu with rfl <;> rfl⟩
def intV (x : Int) : Value := .int .i64 x
def tdC (x : TD) : List Value := [.string x.nm,.int .i64 x.fl,.int .i64 x.ex,.slice x.fa x.fs.length x.fc]
def tdE : Enc TD:=⟨tdC,4,by decide,fun _ => rfl,fun x u hu => by
 simp only [tdC,List.mem_cons,List.not_mem_nil,or_false] at hu
 rcases hu with rfl | rfl | rfl | rfl <;> rfl⟩
def tdV (x : TD) : Value := .agg #[.string x.nm,.int .i64 x.fl,.int .i64 x.ex,.slice x.fa x.fs.length x.fc]
def fdC (x : FD) : List Value := [.string x.nm,.int .i64 x.ow,.int .i64 x.t.1,.int .i64 x.t.2.1,.int .i64 x.t.2.2.1,.bool x.t.2.2.2,.bool x.st]
def fdE : Enc FD:=⟨fdC,7,by decide,fun _ => rfl,fun x u hu => by
 simp only [fdC,List.mem_cons,List.not_mem_nil,or_false] at hu
 rcases hu with rfl | rfl | rfl | rfl | rfl | rfl | rfl <;> rfl⟩
def fdV (x : FD) : Value := .agg #[.string x.nm,.int .i64 x.ow,.int .i64 x.t.1,.int .i64 x.t.2.1,.int .i64 x.t.2.2.1,.bool x.t.2.2.2,.bool x.st]
def mdC (x : MD) : List Value := [.string x.nm,.int .i64 x.ow,.int .i64 x.fl,.slice x.pa x.ps.length x.pc,.int .i64 x.rt.1,.int .i64 x.rt.2.1,.int .i64 x.rt.2.2.1,.bool x.rt.2.2.2,.slice x.la x.ls.length x.lc,.int .i64 x.mx,.slice x.ca x.co.length x.cc,.slice x.ka x.cl.length x.kc]
def mdE : Enc MD:=⟨mdC,12,by decide,fun _ => rfl,fun x u hu => by
 simp only [mdC,List.mem_cons,List.not_mem_nil,or_false] at hu
 rcases hu with rfl | rfl | rfl | rfl | rfl | rfl | rfl | rfl | rfl | rfl | rfl | rfl <;> rfl⟩
def mdV (x : MD) : Value := .agg #[.string x.nm,.int .i64 x.ow,.int .i64 x.fl,.slice x.pa x.ps.length x.pc,.int .i64 x.rt.1,.int .i64 x.rt.2.1,.int .i64 x.rt.2.2.1,.bool x.rt.2.2.2,.slice x.la x.ls.length x.lc,.int .i64 x.mx,.slice x.ca x.co.length x.cc,.slice x.ka x.cl.length x.kc]

theorem El.cells_Y {w : World} {b o : Nat} {x : Ty} (h : El tyE w b o x) : w.cell? ⟨b,o,none⟩ = some (.int .i64 x.1)∧w.cell? ⟨b,o + 1,none⟩ = some (.int .i64 x.2.1)∧w.cell? ⟨b,o + 2,none⟩ = some (.int .i64 x.2.2.1)∧w.cell? ⟨b,o + 3,none⟩ = some (.bool x.2.2.2) :=
 ⟨h 0 _ rfl,h 1 _ rfl,h 2 _ rfl,h 3 _ rfl⟩
theorem El.cells_I {w : World} {b o : Nat} {x : Ins} (h : El insE w b o x) : w.cell? ⟨b,o,none⟩ = some (.int .i64 x.1)∧w.cell? ⟨b,o + 1,none⟩ = some (.int .i64 x.2.1)∧w.cell? ⟨b,o + 2,none⟩ = some (.int .i64 x.2.2.1)∧w.cell? ⟨b,o + 3,none⟩ = some (.int .i64 x.2.2.2.1)∧w.cell? ⟨b,o + 4,none⟩ = some (.int .i64 x.2.2.2.2.1)∧w.cell? ⟨b,o + 5,none⟩ = some (.bool x.2.2.2.2.2) :=
 ⟨h 0 _ rfl,h 1 _ rfl,h 2 _ rfl,h 3 _ rfl,h 4 _ rfl,h 5 _ rfl⟩
theorem El.cells_N {w : World} {b o q : Nat} {x : Int} (h : El intE w b (o + q * 1) x) : w.cell? ⟨b,o + q,none⟩ = some (.int .i64 x):=by
 have:=h 0 _ rfl
 simpa using this
theorem El.cells_T {w : World} {b o : Nat} {x : TD} (h : El tdE w b o x) : w.cell? ⟨b,o,none⟩ = some (.string x.nm)∧w.cell? ⟨b,o + 1,none⟩ = some (.int .i64 x.fl)∧w.cell? ⟨b,o + 2,none⟩ = some (.int .i64 x.ex)∧w.cell? ⟨b,o + 3,none⟩ = some (.slice x.fa x.fs.length x.fc) :=
 ⟨h 0 _ rfl,h 1 _ rfl,h 2 _ rfl,h 3 _ rfl⟩
theorem El.cells_F {w : World} {b o : Nat} {x : FD} (h : El fdE w b o x) : w.cell? ⟨b,o,none⟩ = some (.string x.nm)∧w.cell? ⟨b,o + 1,none⟩ = some (.int .i64 x.ow)∧w.cell? ⟨b,o + 2,none⟩ = some (.int .i64 x.t.1)∧w.cell? ⟨b,o + 3,none⟩ = some (.int .i64 x.t.2.1)∧w.cell? ⟨b,o + 4,none⟩ = some (.int .i64 x.t.2.2.1)∧w.cell? ⟨b,o + 5,none⟩ = some (.bool x.t.2.2.2)∧w.cell? ⟨b,o + 6,none⟩ = some (.bool x.st) :=
 ⟨h 0 _ rfl,h 1 _ rfl,h 2 _ rfl,h 3 _ rfl,h 4 _ rfl,h 5 _ rfl,h 6 _ rfl⟩
theorem El.cells_M {w : World} {b o : Nat} {x : MD} (h : El mdE w b o x) : w.cell? ⟨b,o,none⟩ = some (.string x.nm)∧w.cell? ⟨b,o + 1,none⟩ = some (.int .i64 x.ow)∧w.cell? ⟨b,o + 2,none⟩ = some (.int .i64 x.fl)∧w.cell? ⟨b,o + 3,none⟩ = some (.slice x.pa x.ps.length x.pc) ∧
  w.cell? ⟨b,o + 4,none⟩ = some (.int .i64 x.rt.1)∧w.cell? ⟨b,o + 5,none⟩ = some (.int .i64 x.rt.2.1)∧w.cell? ⟨b,o + 6,none⟩ = some (.int .i64 x.rt.2.2.1)∧w.cell? ⟨b,o + 7,none⟩ = some (.bool x.rt.2.2.2) ∧
  w.cell? ⟨b,o + 8,none⟩ = some (.slice x.la x.ls.length x.lc)∧w.cell? ⟨b,o + 9,none⟩ = some (.int .i64 x.mx)∧w.cell? ⟨b,o + 10,none⟩ = some (.slice x.ca x.co.length x.cc)∧w.cell? ⟨b,o + 11,none⟩ = some (.slice x.ka x.cl.length x.kc) :=
 ⟨h 0 _ rfl,h 1 _ rfl,h 2 _ rfl,h 3 _ rfl,h 4 _ rfl,h 5 _ rfl,h 6 _ rfl,h 7 _ rfl,h 8 _ rfl,h 9 _ rfl,h 10 _ rfl,h 11 _ rfl⟩

def TD.ok (w : World) (x : TD) : Prop:=Es intE w (.slice x.fa x.fs.length x.fc) x.fs
structure MD.ok (w : World) (x : MD) : Prop where
 ps : Es tyE w (.slice x.pa x.ps.length x.pc) x.ps
 ls : Es tyE w (.slice x.la x.ls.length x.lc) x.ls
 co : Es insE w (.slice x.ca x.co.length x.cc) x.co
 cl : Es clE9 w (.slice x.ka x.cl.length x.kc) x.cl
theorem TD.ok.later {w w' : World} {x : TD} (h : x.ok w) (hb : Below w.heap.size w w') : x.ok w':=Es.later h hb
theorem MD.ok.later {w w' : World} {x : MD} (h : x.ok w) (hb : Below w.heap.size w w') : x.ok w':=⟨h.ps.later hb,h.ls.later hb,h.co.later hb,h.cl.later hb⟩

structure Im (w : World) (g : Img) : Prop where
 ts : Es tdE w (.slice g.ta g.ts.length g.tc) g.ts
 tok : ∀ x ∈ g.ts,x.ok w
 fs : Es fdE w (.slice g.fa g.fs.length g.fc) g.fs
 ms : Es mdE w (.slice g.ma g.ms.length g.mc) g.ms
 mok : ∀ x ∈ g.ms,x.ok w
def imV (g : Img) : Value := .agg #[.slice g.ta g.ts.length g.tc,.slice g.fa g.fs.length g.fc,.slice g.ma g.ms.length g.mc,.int .i64 g.en]
theorem Im.later {w w' : World} {g : Img} (h : Im w g) (hb : Below w.heap.size w w') : Im w' g :=
 ⟨h.ts.later hb,fun x hx => (h.tok x hx).later hb,h.fs.later hb,h.ms.later hb,fun x hx => (h.mok x hx).later hb⟩

structure Img.nmOk (g : Img) : Prop where
 ts : ∀ x ∈ g.ts,x.nm.size ≤ maxLen
 fs : ∀ x ∈ g.fs,x.nm.size ≤ maxLen
 ms : ∀ x ∈ g.ms,x.nm.size ≤ maxLen

theorem Es.toTs {w : World} {v : Value} {l : List Ty} (h : Es tyE w v l) : Ts w v l:=by
 by_cases hne : l = []
 ·subst hne
  obtain ⟨a,c,rfl,h1,h2⟩:=h.shape
  exact ⟨a,c,rfl,h1,h2,fun h => absurd rfl h⟩
 ·obtain ⟨b,off,cap,rfl,h1,h2,hb,hc⟩:=h.parts hne
  exact ⟨_,cap,rfl,h1,h2,fun _ => ⟨b,off,rfl,hb,fun i hi => (hc i hi).cells_Y⟩⟩
theorem ecL_int (l : List Int) : ecL intE l = i64s l:=by
 induction l with
 | nil => rfl
 | cons x r ih =>
  have h : ecL intE (x :: r) = intC x ++ ecL intE r:=by simp [ecL,intE]
  rw [h,ih]; simp [i64s,intC]
theorem Es.toIs {w : World} {v : Value} {l : List Int} (h : Es intE w v l) : Is w v l:=by
 obtain ⟨a,cap,rfl,h1,h2,h3⟩:=h
 refine ⟨a,cap,by rw [i64s_length],by rw [i64s_length]; exact h1,h2,fun hne => ?_⟩
 obtain ⟨b,off,rfl,hb,hc⟩:=h3 (by intro e; subst e; exact hne rfl)
 refine ⟨b,off,rfl,hb,fun i hi => hc i _ ?_⟩
 rw [ecL_int]
 exact List.getElem?_eq_getElem hi
theorem Is.toEs {w : World} {v : Value} {l : List Int} (h : Is w v l) : Es intE w v l:=by
 obtain ⟨a,cap,rfl,h1,h2,h3⟩:=h
 rw [i64s_length] at h1
 refine ⟨a,cap,by rw [i64s_length],h1,h2,fun hne => ?_⟩
 obtain ⟨b,off,rfl,hb,hc⟩:=h3 (by intro e; apply hne; simpa [i64s] using e)
 refine ⟨b,off,rfl,hb,fun j u hj => ?_⟩
 rw [ecL_int] at hj
 obtain ⟨hlt,he⟩:=List.getElem?_eq_some_iff.1 hj
 rw [hc j hlt,he]
end Go.Proofs.YthpmpdpfnlecmaaGreat

namespace Go.Proofs.YthpmpdpfnlecmaaGreat
set_option linter.unusedVariables false
set_option linter.unusedSimpArgs false
open Go.RowKit
attribute [local go_sem ↓] Go.wp_at_zero Go.wp_at_succ
theorem run_enter9 {P : Program} {f : FuncId} {fn : Func} {c : Code} (hf : P.funcs[f]? = some fn) (hname : (fn.name == "runtime.NumGoroutine") = false) (hb : fn.body = some c) (args : Array Value) (w : World) :
  (callFunc f args).run P w = .ok (.enter f args) w:=by
 have h1 : ¬ fn.name = "runtime.NumGoroutine" := by simpa using hname
 simp [callFunc,hf,h1,hb]

theorem any_take9 {α : Type} {p : α → Bool} {l : List α} {q : Nat} (hq : q < l.length) (h : (l.take q).any p = false) (hx : p l[q] = false) : (l.take (q + 1)).any p = false:=by
 rw [List.take_succ_eq_append_getElem hq,List.any_append,h]
 simpa using hx

structure Tells {α : Type} (P : Program) (V : α → Value) (w : World) (f : FuncId) (bs cs : Array Value) (p : α → Bool) (l : List α) : Prop where
 enter : ∀ args W,(callFunc f args).run P W = .ok (.enter f args) W
 tells : ∀ W,Below w.heap.size w W → ∀ x ∈ l,Calls P f (bs.push (V x) ++ cs) W fun e w' => e = .returned (.bool (p x))∧Below W.heap.size W w'
theorem Tells.later {α : Type} {P : Program} {V : α → Value} {w w' : World} {f : FuncId} {bs cs : Array Value} {p : α → Bool} {l : List α} (h : Tells P V w f bs cs p l) (hb : Below w.heap.size w w') : Tells P V w' f bs cs p l :=
 ⟨h.enter,fun W hW x hx => h.tells W (bstep hb hW) x hx⟩

set_option maxHeartbeats 1000000 in
theorem indexS_some {b off cap : Nat} {l : List Sp} {w : World} {f : FuncId} {bs cs : Array Value} {p : Sp → Bool} (hb : b < w.heap.size) (hc : ∀ i (hi : i < l.length),El spE w b (off + i * 2) l[i]) (hl : l.length ≤ maxLen) (hf : Tells Tryz.prog spV9 w f bs cs p l) :
  Calls Tryz.prog 262 #[.slice (some ⟨b,off,none⟩) l.length cap,.func (.func f) bs cs] w fun e w' =>
   (∃ k : Int,e = .returned (.int .i64 k)∧(0 ≤ k ↔ l.any p = true))∧Below w.heap.size w w':=by
 unfold maxLen at hl
 have HC : Hid (∀ i (hi : i < l.length),El spE w b (off + i * 2) l[i]):=hc
 have HF : Hid (Tells Tryz.prog spV9 w f bs cs p l):=hf
 have hen:=hf.enter
 clear hc hf
 go_enter Tryz.func262,Tryz.ntmps262
 go_wp2_with fail
 go_loopw [5,8] (fun _ z wr => ∃ q : Nat,q ≤ l.length∧z = .int .i64 q∧Below w.heap.size w wr∧(l.take q).any p = false) (fun _ z _ => l.length - (intOf z).toNat)
 case atStart => exact ⟨0,Nat.zero_le _,rfl,Below.refl _ _,by simp⟩
 case round =>
  obtain ⟨q,hq,rfl,hB,hany⟩:=hrel
  have HAn : Hid ((l.take q).any p = false):=hany
  have hsz:=hB.size
  clear hany
  by_cases hql : q < l.length
  ·obtain ⟨c0,c1⟩:=((HC.out q hql).below hB hb).two
   have HN : Hid (p l[q] = false → (l.take (q + 1)).any p = false):=any_take9 hql HAn.out
   have HY : Hid (p l[q] = true → l.any p = true):=fun h => List.any_eq_true.2 ⟨_,List.getElem_mem hql,h⟩
   have HL : Hid (Calls Tryz.prog f (bs.push (spV9 l[q]) ++ cs) wr fun e w' => e = .returned (.bool (p l[q]))∧Below wr.heap.size wr w'):=HF.out.tells wr hB _ (List.getElem_mem hql)
   generalize l[q] = x at *
   have HBL : Hid (Below w.heap.size w wr):=hB
   clear hB
   cases hx : p x with
   | false =>
    have H1 : Hid ((l.take (q + 1)).any p = false):=HN.out hx
    rw [hx] at HL
    go_wp2_with fail
    refine Calls.mono HL.out ?_
    rintro e w1 ⟨rfl,hb1⟩
    have hB1:=bstep HBL.out hb1
    clear hb1
    go_wp2_with fail
    go_roundw
    case rel => exact ⟨q + 1,by omega,by go_num,hB1,H1.out⟩
    case measure => simp [intOf]; omega
   | true =>
    have H1 : Hid (l.any p = true):=HY.out hx
    rw [hx] at HL
    go_wp2_with fail
    refine Calls.mono HL.out ?_
    rintro e w1 ⟨rfl,hb1⟩
    have hB1:=bstep HBL.out hb1
    clear hb1
    go_wp2_with fail
    go_ret
    exact ⟨⟨_,rfl,⟨fun _ => H1.out,fun _ => by omega⟩⟩,hB1⟩
  ·have HF' : Hid (l.any p = false):=by
    show _ = _
    have:=HAn.out
    rwa [List.take_of_length_le (by omega)] at this
   go_wp2
   go_ret
   exact ⟨⟨_,rfl,⟨fun h => absurd h (by decide),fun h => absurd h (by rw [HF'.out]; decide)⟩⟩,hB⟩

theorem indexS_none (a : Option Addr) (cap : Nat) (f : Value) (w : World) :
  Calls Tryz.prog 262 #[.slice a 0 cap,f] w fun e w' => e = .returned (.int .i64 (-1))∧w' = w:=by
 go_enter Tryz.func262,Tryz.ntmps262
 go_wp2
 refine wp_loop_rounds 1 ?_; rw [rounds_succ]
 go_wp2
 go_ret
 exact ⟨rfl,rfl⟩

theorem containsS_any {v : Value} {l : List Sp} {w : World} (hX : Es spE w v l) {f : FuncId} {bs cs : Array Value} {p : Sp → Bool} (hf : Tells Tryz.prog spV9 w f bs cs p l) :
  Calls Tryz.prog 249 #[v,.func (.func f) bs cs] w fun e w' => e = .returned (.bool (l.any p))∧Below w.heap.size w w':=by
 have HI : Hid (Calls Tryz.prog 262 #[v,.func (.func f) bs cs] w fun e w' => (∃ k : Int,e = .returned (.int .i64 k)∧(0 ≤ k ↔ l.any p = true))∧Below w.heap.size w w'):=by
  by_cases hne : l = []
  ·subst hne
   obtain ⟨a,c,rfl,_,_⟩:=hX.shape
   refine (indexS_none a c _ w).mono ?_
   rintro e w' ⟨rfl,rfl⟩
   exact ⟨⟨_,rfl,⟨fun h => absurd h (by decide),fun h => by simp at h⟩⟩,Below.refl _ _⟩
  ·have hl:=hX.len
   obtain ⟨b,off,cap,rfl,h1,h2,hb,hc⟩:=hX.parts hne
   exact indexS_some hb hc hl hf
 clear hX hf
 go_enter Tryz.func249,Tryz.ntmps249
 go_wp2_with fail
 refine Calls.mono HI.out ?_
 rintro e w1 ⟨⟨k,rfl,hk⟩,hb1⟩
 have HK : Hid (decide (0 ≤ k) = l.any p):=by
  show _ = _
  rw [Bool.eq_iff_iff,decide_eq_true_iff]; exact hk
 clear hk
 go_wp2
 go_ret
 exact ⟨ret_bool HK.out,hb1⟩

set_option maxHeartbeats 1000000 in
theorem indexC_some {b off cap : Nat} {l : List Cl} {w : World} {f : FuncId} {bs cs : Array Value} {p : Cl → Bool} (hb : b < w.heap.size) (hc : ∀ i (hi : i < l.length),El clE9 w b (off + i * 10) l[i]) (hl : l.length ≤ maxLen) (hf : Tells Tryz.prog clV w f bs cs p l) :
  Calls Tryz.prog 255 #[.slice (some ⟨b,off,none⟩) l.length cap,.func (.func f) bs cs] w fun e w' =>
   (∃ k : Int,e = .returned (.int .i64 k)∧(0 ≤ k ↔ l.any p = true))∧Below w.heap.size w w':=by
 unfold maxLen at hl
 have HC : Hid (∀ i (hi : i < l.length),El clE9 w b (off + i * 10) l[i]):=hc
 have HF : Hid (Tells Tryz.prog clV w f bs cs p l):=hf
 have hen:=hf.enter
 clear hc hf
 go_enter Tryz.func255,Tryz.ntmps255
 go_wp2_with fail
 go_loopw [5,8] (fun _ z wr => ∃ q : Nat,q ≤ l.length∧z = .int .i64 q∧Below w.heap.size w wr∧(l.take q).any p = false) (fun _ z _ => l.length - (intOf z).toNat)
 case atStart => exact ⟨0,Nat.zero_le _,rfl,Below.refl _ _,by simp⟩
 case round =>
  obtain ⟨q,hq,rfl,hB,hany⟩:=hrel
  have HAn : Hid ((l.take q).any p = false):=hany
  have hsz:=hB.size
  clear hany
  by_cases hql : q < l.length
  ·obtain ⟨c0,c1,c2,c3,c4,c5,c6,c7,c8,c9⟩:=((HC.out q hql).below hB hb).ten
   have HN : Hid (p l[q] = false → (l.take (q + 1)).any p = false):=any_take9 hql HAn.out
   have HY : Hid (p l[q] = true → l.any p = true):=fun h => List.any_eq_true.2 ⟨_,List.getElem_mem hql,h⟩
   have HL : Hid (Calls Tryz.prog f (bs.push (clV l[q]) ++ cs) wr fun e w' => e = .returned (.bool (p l[q]))∧Below wr.heap.size wr w'):=HF.out.tells wr hB _ (List.getElem_mem hql)
   generalize l[q] = x at *
   have HBL : Hid (Below w.heap.size w wr):=hB
   clear hB
   cases hx : p x with
   | false =>
    have H1 : Hid ((l.take (q + 1)).any p = false):=HN.out hx
    rw [hx] at HL
    go_wp2_with fail
    refine Calls.mono HL.out ?_
    rintro e w1 ⟨rfl,hb1⟩
    have hB1:=bstep HBL.out hb1
    clear hb1
    go_wp2_with fail
    go_roundw
    case rel => exact ⟨q + 1,by omega,by go_num,hB1,H1.out⟩
    case measure => simp [intOf]; omega
   | true =>
    have H1 : Hid (l.any p = true):=HY.out hx
    rw [hx] at HL
    go_wp2_with fail
    refine Calls.mono HL.out ?_
    rintro e w1 ⟨rfl,hb1⟩
    have hB1:=bstep HBL.out hb1
    clear hb1
    go_wp2_with fail
    go_ret
    exact ⟨⟨_,rfl,⟨fun _ => H1.out,fun _ => by omega⟩⟩,hB1⟩
  ·have HF' : Hid (l.any p = false):=by
    show _ = _
    have:=HAn.out
    rwa [List.take_of_length_le (by omega)] at this
   go_wp2
   go_ret
   exact ⟨⟨_,rfl,⟨fun h => absurd h (by decide),fun h => absurd h (by rw [HF'.out]; decide)⟩⟩,hB⟩

theorem indexC_none (a : Option Addr) (cap : Nat) (f : Value) (w : World) :
  Calls Tryz.prog 255 #[.slice a 0 cap,f] w fun e w' => e = .returned (.int .i64 (-1))∧w' = w:=by
 go_enter Tryz.func255,Tryz.ntmps255
 go_wp2
 refine wp_loop_rounds 1 ?_; rw [rounds_succ]
 go_wp2
 go_ret
 exact ⟨rfl,rfl⟩

theorem containsC_any {v : Value} {l : List Cl} {w : World} (hX : Es clE9 w v l) {f : FuncId} {bs cs : Array Value} {p : Cl → Bool} (hf : Tells Tryz.prog clV w f bs cs p l) :
  Calls Tryz.prog 233 #[v,.func (.func f) bs cs] w fun e w' => e = .returned (.bool (l.any p))∧Below w.heap.size w w':=by
 have HI : Hid (Calls Tryz.prog 255 #[v,.func (.func f) bs cs] w fun e w' => (∃ k : Int,e = .returned (.int .i64 k)∧(0 ≤ k ↔ l.any p = true))∧Below w.heap.size w w'):=by
  by_cases hne : l = []
  ·subst hne
   obtain ⟨a,c,rfl,_,_⟩:=hX.shape
   refine (indexC_none a c _ w).mono ?_
   rintro e w' ⟨rfl,rfl⟩
   exact ⟨⟨_,rfl,⟨fun h => absurd h (by decide),fun h => by simp at h⟩⟩,Below.refl _ _⟩
  ·have hl:=hX.len
   obtain ⟨b,off,cap,rfl,h1,h2,hb,hc⟩:=hX.parts hne
   exact indexC_some hb hc hl hf
 clear hX hf
 go_enter Tryz.func233,Tryz.ntmps233
 go_wp2_with fail
 refine Calls.mono HI.out ?_
 rintro e w1 ⟨⟨k,rfl,hk⟩,hb1⟩
 have HK : Hid (decide (0 ≤ k) = l.any p):=by
  show _ = _
  rw [Bool.eq_iff_iff,decide_eq_true_iff]; exact hk
 clear hk
 go_wp2
 go_ret
 exact ⟨ret_bool HK.out,hb1⟩
theorem any_not9 {α : Type} (p : α → Bool) : ∀ l : List α,l.all p = !(l.any fun x => !p x)
 | [] => rfl
 | x :: r => by rw [List.all_cons,List.any_cons,any_not9 p r]; cases p x <;> simp
theorem At.cell0 {w : World} {g : Nat} {v : Value} {t : TypeId} (h : At w g #[v] t) : w.cell? ⟨g,0,none⟩ = some v:=h.cell 0
theorem At.box2 {w : World} {g : Nat} {a b : Value} {t : TypeId} (h : At w g #[a,b] t) : w.cell? ⟨g,0,none⟩ = some a∧w.cell? ⟨g,1,none⟩ = some b:=⟨h.cell 0,h.cell 1⟩
theorem made_below (w : World) (C : Array Value) (t : TypeId) : Below w.heap.size w (w.alloc (.cells C t)):=(Below.refl _ _).alloc (Nat.le_refl _) _

set_option maxHeartbeats 1000000 in
theorem all1S_any {x : Sp} {g : Nat} {w : World} {f : FuncId} {bs cs : Array Value} {y : Bool} (hg : w.cell? ⟨g,0,none⟩ = some (.func (.func f) bs cs)) (hlt : g < w.heap.size)
  (hen : ∀ args W,(callFunc f args).run Tryz.prog W = .ok (.enter f args) W) (hc : ∀ W,Below w.heap.size w W → Calls Tryz.prog f (bs.push (spV9 x) ++ cs) W fun e w' => e = .returned (.bool y)∧Below W.heap.size W w') :
  Calls Tryz.prog 263 #[spV9 x,.pointer (some ⟨g,0,none⟩)] w fun e w' => e = .returned (.bool (!y))∧Below w.heap.size w w':=by
 have HC : Hid (∀ W,Below w.heap.size w W → Calls Tryz.prog f (bs.push (spV9 x) ++ cs) W fun e w' => e = .returned (.bool y)∧Below W.heap.size W w'):=hc
 obtain ⟨w0,hw0⟩ : ∃ W,W = w.alloc (.cells #[.int .i64 x.1,.int .i64 x.2] 202):=⟨_,rfl⟩
 have HW0 : Hid (w0 = _):=hw0
 have hb0 : Below w.heap.size w w0:=by rw [hw0]; exact made_below _ _ _
 have HB0 : Hid (Below w.heap.size w w0):=hb0
 have hA : At w0 w.heap.size #[.int .i64 x.1,.int .i64 x.2] 202:=by rw [hw0]; exact At.made w _ _
 have hg0 : w0.cell? ⟨g,0,none⟩ = some (.func (.func f) bs cs):=by rw [← hg]; exact hb0.cell (p:=⟨g,0,none⟩) hlt
 have HCL : Hid (Calls Tryz.prog f (bs.push (.agg #[.int .i64 x.1,.int .i64 x.2]) ++ cs) w0 fun e w' => e = .returned (.bool y)∧Below w0.heap.size w0 w'):=hc w0 hb0
 obtain ⟨c0,c1⟩:=hA.box2
 clear hc hg hw0 hb0 hA
 unfold spV9
 go_enter Tryz.func263,Tryz.ntmps263
 go_wp2_with (rw [← HW0.out])
 refine Calls.mono HCL.out ?_
 rintro e w1 ⟨rfl,hb1⟩
 have HB1 : Hid (Below w.heap.size w w1):=bstep HB0.out hb1
 clear hb1
 go_wp2
 go_ret
 exact ⟨rfl,HB1.out⟩

set_option maxHeartbeats 1000000 in
theorem allS_any {v : Value} {l : List Sp} {w : World} (hX : Es spE w v l) {f : FuncId} {bs cs : Array Value} {p : Sp → Bool} (hf : Tells Tryz.prog spV9 w f bs cs p l) :
  Calls Tryz.prog 251 #[v,.func (.func f) bs cs] w fun e w' => e = .returned (.bool (l.all p))∧Below w.heap.size w w':=by
 have HR : Hid (l.all p = !(l.any fun x => !p x)):=any_not9 p l
 obtain ⟨w0,hw0⟩ : ∃ W,W = w.alloc (.cells #[.func (.func f) bs cs] 205):=⟨_,rfl⟩
 have HW0 : Hid (w0 = _):=hw0
 have hb0 : Below w.heap.size w w0:=by rw [hw0]; exact made_below _ _ _
 have HB0 : Hid (Below w.heap.size w w0):=hb0
 have hA : At w0 w.heap.size #[.func (.func f) bs cs] 205:=by rw [hw0]; exact At.made w _ _
 have HCo : Hid (Calls Tryz.prog 249 #[v,.func (.func 263) #[] #[.pointer (some ⟨w.heap.size,0,none⟩)]] w0 fun e w' => e = .returned (.bool (l.any fun x => !p x))∧Below w0.heap.size w0 w'):=by
  refine containsS_any (hX.later hb0) ⟨run_enter9 Tryz.func263 (by kernel_rfl) rfl,fun W hW x hx => ?_⟩
  have hA1:=hA.later hW
  have:=all1S_any (x:=x) (w:=W) hA1.cell0 hA1.lt hf.enter (fun W2 hW2 => hf.tells W2 (bstep (bstep hb0 hW) hW2) x hx)
  simpa using this
 clear hw0 hb0 hA hX hf
 go_enter Tryz.func251,Tryz.ntmps251
 go_wp2_with (rw [← HW0.out])
 refine Calls.mono HCo.out ?_
 rintro e w1 ⟨rfl,hb1⟩
 have HB1 : Hid (Below w.heap.size w w1):=bstep HB0.out hb1
 clear hb1
 go_wp2
 go_ret
 exact ⟨ret_bool HR.out.symm,HB1.out⟩

theorem tells_shares (s : Sp) (w : World) (l : List Sp) : Tells Tryz.prog spV9 w 254 #[spV9 s] #[] (shrB s) l :=
 ⟨run_enter9 Tryz.func254 (by kernel_rfl) rfl,fun W _ x _ => by simpa using shares9_any s x W⟩

set_option maxHeartbeats 1000000 in
theorem meet1_any {x : Sp} {g : Nat} {vb : Value} {lb : List Sp} {w : World} (hg : w.cell? ⟨g,0,none⟩ = some vb) (hlt : g < w.heap.size) (hb : Es spE w vb lb) :
  Calls Tryz.prog 261 #[spV9 x,.pointer (some ⟨g,0,none⟩)] w fun e w' => e = .returned (.bool (lb.any (shrB x)))∧Below w.heap.size w w':=by
 obtain ⟨w0,hw0⟩ : ∃ W,W = w.alloc (.cells #[.int .i64 x.1,.int .i64 x.2] 202):=⟨_,rfl⟩
 have HW0 : Hid (w0 = _):=hw0
 have hb0 : Below w.heap.size w w0:=by rw [hw0]; exact made_below _ _ _
 have HB0 : Hid (Below w.heap.size w w0):=hb0
 have hA : At w0 w.heap.size #[.int .i64 x.1,.int .i64 x.2] 202:=by rw [hw0]; exact At.made w _ _
 have hg0 : w0.cell? ⟨g,0,none⟩ = some vb:=by rw [← hg]; exact hb0.cell (p:=⟨g,0,none⟩) hlt
 have HCo : Hid (Calls Tryz.prog 249 #[vb,.func (.func 254) #[.agg #[.int .i64 x.1,.int .i64 x.2]] #[]] w0 fun e w' => e = .returned (.bool (lb.any (shrB x)))∧Below w0.heap.size w0 w'):=containsS_any (hb.later hb0) (tells_shares x w0 lb)
 obtain ⟨c0,c1⟩:=hA.box2
 obtain ⟨va,vc,hvb,_,_⟩:=hb.shape
 clear hb hg hw0 hb0 hA
 subst hvb
 unfold spV9
 go_enter Tryz.func261,Tryz.ntmps261
 go_wp2_with (rw [← HW0.out])
 refine Calls.mono HCo.out ?_
 rintro e w1 ⟨rfl,hb1⟩
 have HB1 : Hid (Below w.heap.size w w1):=bstep HB0.out hb1
 clear hb1
 go_wp2
 go_ret
 exact ⟨rfl,HB1.out⟩

set_option maxHeartbeats 1000000 in
theorem meet_any {va vb : Value} {la lb : List Sp} {w : World} (ha : Es spE w va la) (hb : Es spE w vb lb) :
  Calls Tryz.prog 248 #[va,vb] w fun e w' => e = .returned (.bool (meetB la lb))∧Below w.heap.size w w':=by
 obtain ⟨w0,hw0⟩ : ∃ W,W = w.alloc (.cells #[vb] 187):=⟨_,rfl⟩
 have HW0 : Hid (w0 = _):=hw0
 have hb0 : Below w.heap.size w w0:=by rw [hw0]; exact made_below _ _ _
 have HB0 : Hid (Below w.heap.size w w0):=hb0
 have hA : At w0 w.heap.size #[vb] 187:=by rw [hw0]; exact At.made w _ _
 have HCo : Hid (Calls Tryz.prog 249 #[va,.func (.func 261) #[] #[.pointer (some ⟨w.heap.size,0,none⟩)]] w0 fun e w' => e = .returned (.bool (meetB la lb))∧Below w0.heap.size w0 w'):=by
  refine containsS_any (ha.later hb0) ⟨run_enter9 Tryz.func261 (by kernel_rfl) rfl,fun W hW x hx => ?_⟩
  have hA1:=hA.later hW
  have:=meet1_any (x:=x) (w:=W) hA1.cell0 hA1.lt ((hb.later hb0).later hW)
  simpa using this
 obtain ⟨aa,ca,hva,_,_⟩:=ha.shape
 obtain ⟨ab,cb,hvb,_,_⟩:=hb.shape
 clear ha hb hw0 hb0 hA
 subst hva hvb
 go_enter Tryz.func248,Tryz.ntmps248
 go_wp2_with (rw [← HW0.out])
 refine Calls.mono HCo.out ?_
 rintro e w1 ⟨rfl,hb1⟩
 have HB1 : Hid (Below w.heap.size w w1):=bstep HB0.out hb1
 clear hb1
 go_wp2
 go_ret
 exact ⟨rfl,HB1.out⟩
end Go.Proofs.YthpmpdpfnlecmaaGreat
