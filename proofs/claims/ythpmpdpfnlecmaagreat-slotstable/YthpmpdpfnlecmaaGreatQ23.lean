/- Texts joined: AllM10, Cmp9. -/
import Derived.Test.YthpmpdpfnlecmaaGreatQ08
import Derived.Test.YthpmpdpfnlecmaaGreatRows
import Derived.Test.YthpmpdpfnlecmaaGreatQ01
namespace Go.Proofs.YthpmpdpfnlecmaaGreat
set_option linter.unusedVariables false
set_option linter.unusedSimpArgs false
open Go.RowKit
attribute [local go_sem ↓] Go.wp_at_zero Go.wp_at_succ
set_option maxHeartbeats 1000000 in
theorem indexT10_some {b off cap : Nat} {l : List TD} {w : World} {f : FuncId} {bs cs : Array Value} {p : TD → Bool} (hb : b < w.heap.size) (hc : ∀ i (hi : i < l.length),El tdE w b (off + i * 4) l[i]) (hl : l.length ≤ maxLen) (hf : Tells Tryz.prog tdV w f bs cs p l) :
  Calls Tryz.prog 185 #[.slice (some ⟨b,off,none⟩) l.length cap,.func (.func f) bs cs] w fun e w' =>
   (∃ k : Int,e = .returned (.int .i64 k)∧(0 ≤ k ↔ l.any p = true))∧Below w.heap.size w w':=by
 unfold maxLen at hl
 have HC : Hid (∀ i (hi : i < l.length),El tdE w b (off + i * 4) l[i]):=hc
 have HF : Hid (Tells Tryz.prog tdV w f bs cs p l):=hf
 have hen:=hf.enter
 clear hc hf
 go_enter Tryz.func185,Tryz.ntmps185
 go_wp2_with fail
 go_loopw [5,8] (fun _ z wr => ∃ q : Nat,q ≤ l.length∧z = .int .i64 q∧Below w.heap.size w wr∧(l.take q).any p = false) (fun _ z _ => l.length - (intOf z).toNat)
 case atStart => exact ⟨0,Nat.zero_le _,rfl,Below.refl _ _,by simp⟩
 case round =>
  obtain ⟨q,hq,rfl,hB,hany⟩:=hrel
  have HAn : Hid ((l.take q).any p = false):=hany
  have hsz:=hB.size
  clear hany
  by_cases hql : q < l.length
  ·obtain ⟨c0,c1,c2,c3⟩:=((HC.out q hql).below hB hb).cells_T
   have HN : Hid (p l[q] = false → (l.take (q + 1)).any p = false):=any_take9 hql HAn.out
   have HY : Hid (p l[q] = true → l.any p = true):=fun h => List.any_eq_true.2 ⟨_,List.getElem_mem hql,h⟩
   have HL : Hid (Calls Tryz.prog f (bs.push (tdV l[q]) ++ cs) wr fun e w' => e = .returned (.bool (p l[q]))∧Below wr.heap.size wr w'):=HF.out.tells wr hB _ (List.getElem_mem hql)
   generalize l[q] = x at *
   have HBL : Hid (Below w.heap.size w wr):=hB
   clear hB
   cases hx : p x with
   | false =>
    have H1 : Hid ((l.take (q + 1)).any p = false):=HN.out hx
    rw [hx] at HL
    go_wp2_with fail
    refine Calls.mono HL.out ?_
    rintro e w1 ⟨rfl,hb1⟩
    have hB1:=bstep HBL.out hb1
    clear hb1
    go_wp2_with fail
    go_roundw
    case rel => exact ⟨q + 1,by omega,by go_num,hB1,H1.out⟩
    case measure => simp [intOf]; omega
   | true =>
    have H1 : Hid (l.any p = true):=HY.out hx
    rw [hx] at HL
    go_wp2_with fail
    refine Calls.mono HL.out ?_
    rintro e w1 ⟨rfl,hb1⟩
    have hB1:=bstep HBL.out hb1
    clear hb1
    go_wp2_with fail
    go_ret
    exact ⟨⟨_,rfl,⟨fun _ => H1.out,fun _ => by omega⟩⟩,hB1⟩
  ·have HF' : Hid (l.any p = false):=by
    show _ = _
    have:=HAn.out
    rwa [List.take_of_length_le (by omega)] at this
   go_wp2
   go_ret
   exact ⟨⟨_,rfl,⟨fun h => absurd h (by decide),fun h => absurd h (by rw [HF'.out]; decide)⟩⟩,hB⟩

theorem indexT10_none (a : Option Addr) (cap : Nat) (f : Value) (w : World) :
  Calls Tryz.prog 185 #[.slice a 0 cap,f] w fun e w' => e = .returned (.int .i64 (-1))∧w' = w:=by
 go_enter Tryz.func185,Tryz.ntmps185
 go_wp2
 refine wp_loop_rounds 1 ?_; rw [rounds_succ]
 go_wp2
 go_ret
 exact ⟨rfl,rfl⟩

theorem containsT10_any {v : Value} {l : List TD} {w : World} (hX : Es tdE w v l) {f : FuncId} {bs cs : Array Value} {p : TD → Bool} (hf : Tells Tryz.prog tdV w f bs cs p l) :
  Calls Tryz.prog 141 #[v,.func (.func f) bs cs] w fun e w' => e = .returned (.bool (l.any p))∧Below w.heap.size w w':=by
 have HI : Hid (Calls Tryz.prog 185 #[v,.func (.func f) bs cs] w fun e w' => (∃ k : Int,e = .returned (.int .i64 k)∧(0 ≤ k ↔ l.any p = true))∧Below w.heap.size w w'):=by
  by_cases hne : l = []
  ·subst hne
   obtain ⟨a,c,rfl,_,_⟩:=hX.shape
   refine (indexT10_none a c _ w).mono ?_
   rintro e w' ⟨rfl,rfl⟩
   exact ⟨⟨_,rfl,⟨fun h => absurd h (by decide),fun h => by simp at h⟩⟩,Below.refl _ _⟩
  ·have hl:=hX.len
   obtain ⟨b,off,cap,rfl,h1,h2,hb,hc⟩:=hX.parts hne
   exact indexT10_some hb hc hl hf
 clear hX hf
 go_enter Tryz.func141,Tryz.ntmps141
 go_wp2_with fail
 refine Calls.mono HI.out ?_
 rintro e w1 ⟨⟨k,rfl,hk⟩,hb1⟩
 have HK : Hid (decide (0 ≤ k) = l.any p):=by
  show _ = _
  rw [Bool.eq_iff_iff,decide_eq_true_iff]; exact hk
 clear hk
 go_wp2
 go_ret
 exact ⟨ret_bool HK.out,hb1⟩

set_option maxHeartbeats 1000000 in
theorem all1T10_any {x : TD} {g : Nat} {w : World} {f : FuncId} {bs cs : Array Value} {y : Bool} (hg : w.cell? ⟨g,0,none⟩ = some (.func (.func f) bs cs)) (hlt : g < w.heap.size)
  (hen : ∀ args W,(callFunc f args).run Tryz.prog W = .ok (.enter f args) W) (hc : ∀ W,Below w.heap.size w W → Calls Tryz.prog f (bs.push (tdV x) ++ cs) W fun e w' => e = .returned (.bool y)∧Below W.heap.size W w') :
  Calls Tryz.prog 142 #[tdV x,.pointer (some ⟨g,0,none⟩)] w fun e w' => e = .returned (.bool (!y))∧Below w.heap.size w w':=by
 obtain ⟨w0,hw0⟩ : ∃ W,W = w.alloc (.cells #[.string x.nm,.int .i64 x.fl,.int .i64 x.ex,.slice x.fa x.fs.length x.fc] 34):=⟨_,rfl⟩
 have HW0 : Hid (w0 = _):=hw0
 have hb0 : Below w.heap.size w w0:=by rw [hw0]; exact made_below _ _ _
 have HB0 : Hid (Below w.heap.size w w0):=hb0
 have hA : At w0 w.heap.size #[.string x.nm,.int .i64 x.fl,.int .i64 x.ex,.slice x.fa x.fs.length x.fc] 34:=by rw [hw0]; exact At.made w _ _
 have hg0 : w0.cell? ⟨g,0,none⟩ = some (.func (.func f) bs cs):=by rw [← hg]; exact hb0.cell (p:=⟨g,0,none⟩) hlt
 have HCL : Hid (Calls Tryz.prog f (bs.push (.agg #[.string x.nm,.int .i64 x.fl,.int .i64 x.ex,.slice x.fa x.fs.length x.fc]) ++ cs) w0 fun e w' => e = .returned (.bool y)∧Below w0.heap.size w0 w'):=hc w0 hb0
 have hcells:=hA.cell
 clear hc hg hw0 hb0 hA
 unfold tdV
 go_enter Tryz.func142,Tryz.ntmps142
 go_wp2_with (rw [← HW0.out])
 refine Calls.mono HCL.out ?_
 rintro e w1 ⟨rfl,hb1⟩
 have HB1 : Hid (Below w.heap.size w w1):=bstep HB0.out hb1
 clear hb1 hcells
 go_wp2
 go_ret
 exact ⟨rfl,HB1.out⟩

set_option maxHeartbeats 1000000 in
theorem allT10_any {v : Value} {l : List TD} {w : World} (hX : Es tdE w v l) {f : FuncId} {bs cs : Array Value} {p : TD → Bool} (hf : Tells Tryz.prog tdV w f bs cs p l) :
  Calls Tryz.prog 97 #[v,.func (.func f) bs cs] w fun e w' => e = .returned (.bool (l.all p))∧Below w.heap.size w w':=by
 have HR : Hid (l.all p = !(l.any fun x => !p x)):=any_not9 p l
 obtain ⟨w0,hw0⟩ : ∃ W,W = w.alloc (.cells #[.func (.func f) bs cs] 111):=⟨_,rfl⟩
 have HW0 : Hid (w0 = _):=hw0
 have hb0 : Below w.heap.size w w0:=by rw [hw0]; exact made_below _ _ _
 have HB0 : Hid (Below w.heap.size w w0):=hb0
 have hA : At w0 w.heap.size #[.func (.func f) bs cs] 111:=by rw [hw0]; exact At.made w _ _
 have HCo : Hid (Calls Tryz.prog 141 #[v,.func (.func 142) #[] #[.pointer (some ⟨w.heap.size,0,none⟩)]] w0 fun e w' => e = .returned (.bool (l.any fun x => !p x))∧Below w0.heap.size w0 w'):=by
  refine containsT10_any (hX.later hb0) ⟨run_enter9 Tryz.func142 (by kernel_rfl) rfl,fun W hW x hx => ?_⟩
  have hA1:=hA.later hW
  have:=all1T10_any (x:=x) (w:=W) hA1.cell0 hA1.lt hf.enter (fun W2 hW2 => hf.tells W2 (bstep (bstep hb0 hW) hW2) x hx)
  simpa using this
 obtain ⟨sa,sc,hsv,_,_⟩:=hX.shape
 clear hw0 hb0 hA hX hf
 subst hsv
 go_enter Tryz.func97,Tryz.ntmps97
 go_wp2_with (rw [← HW0.out])
 refine Calls.mono HCo.out ?_
 rintro e w1 ⟨rfl,hb1⟩
 have HB1 : Hid (Below w.heap.size w w1):=bstep HB0.out hb1
 clear hb1
 go_wp2
 go_ret
 exact ⟨ret_bool HR.out.symm,HB1.out⟩

set_option maxHeartbeats 1000000 in
theorem indexF10_some {b off cap : Nat} {l : List FD} {w : World} {f : FuncId} {bs cs : Array Value} {p : FD → Bool} (hb : b < w.heap.size) (hc : ∀ i (hi : i < l.length),El fdE w b (off + i * 7) l[i]) (hl : l.length ≤ maxLen) (hf : Tells Tryz.prog fdV w f bs cs p l) :
  Calls Tryz.prog 187 #[.slice (some ⟨b,off,none⟩) l.length cap,.func (.func f) bs cs] w fun e w' =>
   (∃ k : Int,e = .returned (.int .i64 k)∧(0 ≤ k ↔ l.any p = true))∧Below w.heap.size w w':=by
 unfold maxLen at hl
 have HC : Hid (∀ i (hi : i < l.length),El fdE w b (off + i * 7) l[i]):=hc
 have HF : Hid (Tells Tryz.prog fdV w f bs cs p l):=hf
 have hen:=hf.enter
 clear hc hf
 go_enter Tryz.func187,Tryz.ntmps187
 go_wp2_with fail
 go_loopw [5,8] (fun _ z wr => ∃ q : Nat,q ≤ l.length∧z = .int .i64 q∧Below w.heap.size w wr∧(l.take q).any p = false) (fun _ z _ => l.length - (intOf z).toNat)
 case atStart => exact ⟨0,Nat.zero_le _,rfl,Below.refl _ _,by simp⟩
 case round =>
  obtain ⟨q,hq,rfl,hB,hany⟩:=hrel
  have HAn : Hid ((l.take q).any p = false):=hany
  have hsz:=hB.size
  clear hany
  by_cases hql : q < l.length
  ·obtain ⟨c0,c1,c2,c3,c4,c5,c6⟩:=((HC.out q hql).below hB hb).cells_F
   have HN : Hid (p l[q] = false → (l.take (q + 1)).any p = false):=any_take9 hql HAn.out
   have HY : Hid (p l[q] = true → l.any p = true):=fun h => List.any_eq_true.2 ⟨_,List.getElem_mem hql,h⟩
   have HL : Hid (Calls Tryz.prog f (bs.push (fdV l[q]) ++ cs) wr fun e w' => e = .returned (.bool (p l[q]))∧Below wr.heap.size wr w'):=HF.out.tells wr hB _ (List.getElem_mem hql)
   generalize l[q] = x at *
   have HBL : Hid (Below w.heap.size w wr):=hB
   clear hB
   cases hx : p x with
   | false =>
    have H1 : Hid ((l.take (q + 1)).any p = false):=HN.out hx
    rw [hx] at HL
    go_wp2_with fail
    refine Calls.mono HL.out ?_
    rintro e w1 ⟨rfl,hb1⟩
    have hB1:=bstep HBL.out hb1
    clear hb1
    go_wp2_with fail
    go_roundw
    case rel => exact ⟨q + 1,by omega,by go_num,hB1,H1.out⟩
    case measure => simp [intOf]; omega
   | true =>
    have H1 : Hid (l.any p = true):=HY.out hx
    rw [hx] at HL
    go_wp2_with fail
    refine Calls.mono HL.out ?_
    rintro e w1 ⟨rfl,hb1⟩
    have hB1:=bstep HBL.out hb1
    clear hb1
    go_wp2_with fail
    go_ret
    exact ⟨⟨_,rfl,⟨fun _ => H1.out,fun _ => by omega⟩⟩,hB1⟩
  ·have HF' : Hid (l.any p = false):=by
    show _ = _
    have:=HAn.out
    rwa [List.take_of_length_le (by omega)] at this
   go_wp2
   go_ret
   exact ⟨⟨_,rfl,⟨fun h => absurd h (by decide),fun h => absurd h (by rw [HF'.out]; decide)⟩⟩,hB⟩

theorem indexF10_none (a : Option Addr) (cap : Nat) (f : Value) (w : World) :
  Calls Tryz.prog 187 #[.slice a 0 cap,f] w fun e w' => e = .returned (.int .i64 (-1))∧w' = w:=by
 go_enter Tryz.func187,Tryz.ntmps187
 go_wp2
 refine wp_loop_rounds 1 ?_; rw [rounds_succ]
 go_wp2
 go_ret
 exact ⟨rfl,rfl⟩

theorem containsF10_any {v : Value} {l : List FD} {w : World} (hX : Es fdE w v l) {f : FuncId} {bs cs : Array Value} {p : FD → Bool} (hf : Tells Tryz.prog fdV w f bs cs p l) :
  Calls Tryz.prog 147 #[v,.func (.func f) bs cs] w fun e w' => e = .returned (.bool (l.any p))∧Below w.heap.size w w':=by
 have HI : Hid (Calls Tryz.prog 187 #[v,.func (.func f) bs cs] w fun e w' => (∃ k : Int,e = .returned (.int .i64 k)∧(0 ≤ k ↔ l.any p = true))∧Below w.heap.size w w'):=by
  by_cases hne : l = []
  ·subst hne
   obtain ⟨a,c,rfl,_,_⟩:=hX.shape
   refine (indexF10_none a c _ w).mono ?_
   rintro e w' ⟨rfl,rfl⟩
   exact ⟨⟨_,rfl,⟨fun h => absurd h (by decide),fun h => by simp at h⟩⟩,Below.refl _ _⟩
  ·have hl:=hX.len
   obtain ⟨b,off,cap,rfl,h1,h2,hb,hc⟩:=hX.parts hne
   exact indexF10_some hb hc hl hf
 clear hX hf
 go_enter Tryz.func147,Tryz.ntmps147
 go_wp2_with fail
 refine Calls.mono HI.out ?_
 rintro e w1 ⟨⟨k,rfl,hk⟩,hb1⟩
 have HK : Hid (decide (0 ≤ k) = l.any p):=by
  show _ = _
  rw [Bool.eq_iff_iff,decide_eq_true_iff]; exact hk
 clear hk
 go_wp2
 go_ret
 exact ⟨ret_bool HK.out,hb1⟩

set_option maxHeartbeats 1000000 in
theorem all1F10_any {x : FD} {g : Nat} {w : World} {f : FuncId} {bs cs : Array Value} {y : Bool} (hg : w.cell? ⟨g,0,none⟩ = some (.func (.func f) bs cs)) (hlt : g < w.heap.size)
  (hen : ∀ args W,(callFunc f args).run Tryz.prog W = .ok (.enter f args) W) (hc : ∀ W,Below w.heap.size w W → Calls Tryz.prog f (bs.push (fdV x) ++ cs) W fun e w' => e = .returned (.bool y)∧Below W.heap.size W w') :
  Calls Tryz.prog 148 #[fdV x,.pointer (some ⟨g,0,none⟩)] w fun e w' => e = .returned (.bool (!y))∧Below w.heap.size w w':=by
 obtain ⟨w0,hw0⟩ : ∃ W,W = w.alloc (.cells #[.string x.nm,.int .i64 x.ow,.int .i64 x.t.1,.int .i64 x.t.2.1,.int .i64 x.t.2.2.1,.bool x.t.2.2.2,.bool x.st] 75):=⟨_,rfl⟩
 have HW0 : Hid (w0 = _):=hw0
 have hb0 : Below w.heap.size w w0:=by rw [hw0]; exact made_below _ _ _
 have HB0 : Hid (Below w.heap.size w w0):=hb0
 have hA : At w0 w.heap.size #[.string x.nm,.int .i64 x.ow,.int .i64 x.t.1,.int .i64 x.t.2.1,.int .i64 x.t.2.2.1,.bool x.t.2.2.2,.bool x.st] 75:=by rw [hw0]; exact At.made w _ _
 have hg0 : w0.cell? ⟨g,0,none⟩ = some (.func (.func f) bs cs):=by rw [← hg]; exact hb0.cell (p:=⟨g,0,none⟩) hlt
 have HCL : Hid (Calls Tryz.prog f (bs.push (.agg #[.string x.nm,.int .i64 x.ow,.int .i64 x.t.1,.int .i64 x.t.2.1,.int .i64 x.t.2.2.1,.bool x.t.2.2.2,.bool x.st]) ++ cs) w0 fun e w' => e = .returned (.bool y)∧Below w0.heap.size w0 w'):=hc w0 hb0
 have hcells:=hA.cell
 clear hc hg hw0 hb0 hA
 unfold fdV
 go_enter Tryz.func148,Tryz.ntmps148
 go_wp2_with (rw [← HW0.out])
 refine Calls.mono HCL.out ?_
 rintro e w1 ⟨rfl,hb1⟩
 have HB1 : Hid (Below w.heap.size w w1):=bstep HB0.out hb1
 clear hb1 hcells
 go_wp2
 go_ret
 exact ⟨rfl,HB1.out⟩

set_option maxHeartbeats 1000000 in
theorem allF10_any {v : Value} {l : List FD} {w : World} (hX : Es fdE w v l) {f : FuncId} {bs cs : Array Value} {p : FD → Bool} (hf : Tells Tryz.prog fdV w f bs cs p l) :
  Calls Tryz.prog 99 #[v,.func (.func f) bs cs] w fun e w' => e = .returned (.bool (l.all p))∧Below w.heap.size w w':=by
 have HR : Hid (l.all p = !(l.any fun x => !p x)):=any_not9 p l
 obtain ⟨w0,hw0⟩ : ∃ W,W = w.alloc (.cells #[.func (.func f) bs cs] 113):=⟨_,rfl⟩
 have HW0 : Hid (w0 = _):=hw0
 have hb0 : Below w.heap.size w w0:=by rw [hw0]; exact made_below _ _ _
 have HB0 : Hid (Below w.heap.size w w0):=hb0
 have hA : At w0 w.heap.size #[.func (.func f) bs cs] 113:=by rw [hw0]; exact At.made w _ _
 have HCo : Hid (Calls Tryz.prog 147 #[v,.func (.func 148) #[] #[.pointer (some ⟨w.heap.size,0,none⟩)]] w0 fun e w' => e = .returned (.bool (l.any fun x => !p x))∧Below w0.heap.size w0 w'):=by
  refine containsF10_any (hX.later hb0) ⟨run_enter9 Tryz.func148 (by kernel_rfl) rfl,fun W hW x hx => ?_⟩
  have hA1:=hA.later hW
  have:=all1F10_any (x:=x) (w:=W) hA1.cell0 hA1.lt hf.enter (fun W2 hW2 => hf.tells W2 (bstep (bstep hb0 hW) hW2) x hx)
  simpa using this
 obtain ⟨sa,sc,hsv,_,_⟩:=hX.shape
 clear hw0 hb0 hA hX hf
 subst hsv
 go_enter Tryz.func99,Tryz.ntmps99
 go_wp2_with (rw [← HW0.out])
 refine Calls.mono HCo.out ?_
 rintro e w1 ⟨rfl,hb1⟩
 have HB1 : Hid (Below w.heap.size w w1):=bstep HB0.out hb1
 clear hb1
 go_wp2
 go_ret
 exact ⟨ret_bool HR.out.symm,HB1.out⟩

set_option maxHeartbeats 1000000 in
theorem indexM10_some {b off cap : Nat} {l : List MD} {w : World} {f : FuncId} {bs cs : Array Value} {p : MD → Bool} (hb : b < w.heap.size) (hc : ∀ i (hi : i < l.length),El mdE w b (off + i * 12) l[i]) (hl : l.length ≤ maxLen) (hf : Tells Tryz.prog mdV w f bs cs p l) :
  Calls Tryz.prog 190 #[.slice (some ⟨b,off,none⟩) l.length cap,.func (.func f) bs cs] w fun e w' =>
   (∃ k : Int,e = .returned (.int .i64 k)∧(0 ≤ k ↔ l.any p = true))∧Below w.heap.size w w':=by
 unfold maxLen at hl
 have HC : Hid (∀ i (hi : i < l.length),El mdE w b (off + i * 12) l[i]):=hc
 have HF : Hid (Tells Tryz.prog mdV w f bs cs p l):=hf
 have hen:=hf.enter
 clear hc hf
 go_enter Tryz.func190,Tryz.ntmps190
 go_wp2_with fail
 go_loopw [5,8] (fun _ z wr => ∃ q : Nat,q ≤ l.length∧z = .int .i64 q∧Below w.heap.size w wr∧(l.take q).any p = false) (fun _ z _ => l.length - (intOf z).toNat)
 case atStart => exact ⟨0,Nat.zero_le _,rfl,Below.refl _ _,by simp⟩
 case round =>
  obtain ⟨q,hq,rfl,hB,hany⟩:=hrel
  have HAn : Hid ((l.take q).any p = false):=hany
  have hsz:=hB.size
  clear hany
  by_cases hql : q < l.length
  ·obtain ⟨c0,c1,c2,c3,c4,c5,c6,c7,c8,c9,c10,c11⟩:=((HC.out q hql).below hB hb).cells_M
   have HN : Hid (p l[q] = false → (l.take (q + 1)).any p = false):=any_take9 hql HAn.out
   have HY : Hid (p l[q] = true → l.any p = true):=fun h => List.any_eq_true.2 ⟨_,List.getElem_mem hql,h⟩
   have HL : Hid (Calls Tryz.prog f (bs.push (mdV l[q]) ++ cs) wr fun e w' => e = .returned (.bool (p l[q]))∧Below wr.heap.size wr w'):=HF.out.tells wr hB _ (List.getElem_mem hql)
   generalize l[q] = x at *
   have HBL : Hid (Below w.heap.size w wr):=hB
   clear hB
   cases hx : p x with
   | false =>
    have H1 : Hid ((l.take (q + 1)).any p = false):=HN.out hx
    rw [hx] at HL
    go_wp2_with fail
    refine Calls.mono HL.out ?_
    rintro e w1 ⟨rfl,hb1⟩
    have hB1:=bstep HBL.out hb1
    clear hb1
    go_wp2_with fail
    go_roundw
    case rel => exact ⟨q + 1,by omega,by go_num,hB1,H1.out⟩
    case measure => simp [intOf]; omega
   | true =>
    have H1 : Hid (l.any p = true):=HY.out hx
    rw [hx] at HL
    go_wp2_with fail
    refine Calls.mono HL.out ?_
    rintro e w1 ⟨rfl,hb1⟩
    have hB1:=bstep HBL.out hb1
    clear hb1
    go_wp2_with fail
    go_ret
    exact ⟨⟨_,rfl,⟨fun _ => H1.out,fun _ => by omega⟩⟩,hB1⟩
  ·have HF' : Hid (l.any p = false):=by
    show _ = _
    have:=HAn.out
    rwa [List.take_of_length_le (by omega)] at this
   go_wp2
   go_ret
   exact ⟨⟨_,rfl,⟨fun h => absurd h (by decide),fun h => absurd h (by rw [HF'.out]; decide)⟩⟩,hB⟩

theorem indexM10_none (a : Option Addr) (cap : Nat) (f : Value) (w : World) :
  Calls Tryz.prog 190 #[.slice a 0 cap,f] w fun e w' => e = .returned (.int .i64 (-1))∧w' = w:=by
 go_enter Tryz.func190,Tryz.ntmps190
 go_wp2
 refine wp_loop_rounds 1 ?_; rw [rounds_succ]
 go_wp2
 go_ret
 exact ⟨rfl,rfl⟩

theorem containsM10_any {v : Value} {l : List MD} {w : World} (hX : Es mdE w v l) {f : FuncId} {bs cs : Array Value} {p : MD → Bool} (hf : Tells Tryz.prog mdV w f bs cs p l) :
  Calls Tryz.prog 151 #[v,.func (.func f) bs cs] w fun e w' => e = .returned (.bool (l.any p))∧Below w.heap.size w w':=by
 have HI : Hid (Calls Tryz.prog 190 #[v,.func (.func f) bs cs] w fun e w' => (∃ k : Int,e = .returned (.int .i64 k)∧(0 ≤ k ↔ l.any p = true))∧Below w.heap.size w w'):=by
  by_cases hne : l = []
  ·subst hne
   obtain ⟨a,c,rfl,_,_⟩:=hX.shape
   refine (indexM10_none a c _ w).mono ?_
   rintro e w' ⟨rfl,rfl⟩
   exact ⟨⟨_,rfl,⟨fun h => absurd h (by decide),fun h => by simp at h⟩⟩,Below.refl _ _⟩
  ·have hl:=hX.len
   obtain ⟨b,off,cap,rfl,h1,h2,hb,hc⟩:=hX.parts hne
   exact indexM10_some hb hc hl hf
 clear hX hf
 go_enter Tryz.func151,Tryz.ntmps151
 go_wp2_with fail
 refine Calls.mono HI.out ?_
 rintro e w1 ⟨⟨k,rfl,hk⟩,hb1⟩
 have HK : Hid (decide (0 ≤ k) = l.any p):=by
  show _ = _
  rw [Bool.eq_iff_iff,decide_eq_true_iff]; exact hk
 clear hk
 go_wp2
 go_ret
 exact ⟨ret_bool HK.out,hb1⟩

set_option maxHeartbeats 1000000 in
theorem all1M10_any {x : MD} {g : Nat} {w : World} {f : FuncId} {bs cs : Array Value} {y : Bool} (hg : w.cell? ⟨g,0,none⟩ = some (.func (.func f) bs cs)) (hlt : g < w.heap.size)
  (hen : ∀ args W,(callFunc f args).run Tryz.prog W = .ok (.enter f args) W) (hc : ∀ W,Below w.heap.size w W → Calls Tryz.prog f (bs.push (mdV x) ++ cs) W fun e w' => e = .returned (.bool y)∧Below W.heap.size W w') :
  Calls Tryz.prog 152 #[mdV x,.pointer (some ⟨g,0,none⟩)] w fun e w' => e = .returned (.bool (!y))∧Below w.heap.size w w':=by
 obtain ⟨w0,hw0⟩ : ∃ W,W = w.alloc (.cells #[.string x.nm,.int .i64 x.ow,.int .i64 x.fl,.slice x.pa x.ps.length x.pc,.int .i64 x.rt.1,.int .i64 x.rt.2.1,.int .i64 x.rt.2.2.1,.bool x.rt.2.2.2,.slice x.la x.ls.length x.lc,.int .i64 x.mx,.slice x.ca x.co.length x.cc,.slice x.ka x.cl.length x.kc] 55):=⟨_,rfl⟩
 have HW0 : Hid (w0 = _):=hw0
 have hb0 : Below w.heap.size w w0:=by rw [hw0]; exact made_below _ _ _
 have HB0 : Hid (Below w.heap.size w w0):=hb0
 have hA : At w0 w.heap.size #[.string x.nm,.int .i64 x.ow,.int .i64 x.fl,.slice x.pa x.ps.length x.pc,.int .i64 x.rt.1,.int .i64 x.rt.2.1,.int .i64 x.rt.2.2.1,.bool x.rt.2.2.2,.slice x.la x.ls.length x.lc,.int .i64 x.mx,.slice x.ca x.co.length x.cc,.slice x.ka x.cl.length x.kc] 55:=by rw [hw0]; exact At.made w _ _
 have hg0 : w0.cell? ⟨g,0,none⟩ = some (.func (.func f) bs cs):=by rw [← hg]; exact hb0.cell (p:=⟨g,0,none⟩) hlt
 have HCL : Hid (Calls Tryz.prog f (bs.push (.agg #[.string x.nm,.int .i64 x.ow,.int .i64 x.fl,.slice x.pa x.ps.length x.pc,.int .i64 x.rt.1,.int .i64 x.rt.2.1,.int .i64 x.rt.2.2.1,.bool x.rt.2.2.2,.slice x.la x.ls.length x.lc,.int .i64 x.mx,.slice x.ca x.co.length x.cc,.slice x.ka x.cl.length x.kc]) ++ cs) w0 fun e w' => e = .returned (.bool y)∧Below w0.heap.size w0 w'):=hc w0 hb0
 have hcells:=hA.cell
 clear hc hg hw0 hb0 hA
 unfold mdV
 go_enter Tryz.func152,Tryz.ntmps152
 go_wp2_with (rw [← HW0.out])
 refine Calls.mono HCL.out ?_
 rintro e w1 ⟨rfl,hb1⟩
 have HB1 : Hid (Below w.heap.size w w1):=bstep HB0.out hb1
 clear hb1 hcells
 go_wp2
 go_ret
 exact ⟨rfl,HB1.out⟩

set_option maxHeartbeats 1000000 in
theorem allM10_any {v : Value} {l : List MD} {w : World} (hX : Es mdE w v l) {f : FuncId} {bs cs : Array Value} {p : MD → Bool} (hf : Tells Tryz.prog mdV w f bs cs p l) :
  Calls Tryz.prog 103 #[v,.func (.func f) bs cs] w fun e w' => e = .returned (.bool (l.all p))∧Below w.heap.size w w':=by
 have HR : Hid (l.all p = !(l.any fun x => !p x)):=any_not9 p l
 obtain ⟨w0,hw0⟩ : ∃ W,W = w.alloc (.cells #[.func (.func f) bs cs] 71):=⟨_,rfl⟩
 have HW0 : Hid (w0 = _):=hw0
 have hb0 : Below w.heap.size w w0:=by rw [hw0]; exact made_below _ _ _
 have HB0 : Hid (Below w.heap.size w w0):=hb0
 have hA : At w0 w.heap.size #[.func (.func f) bs cs] 71:=by rw [hw0]; exact At.made w _ _
 have HCo : Hid (Calls Tryz.prog 151 #[v,.func (.func 152) #[] #[.pointer (some ⟨w.heap.size,0,none⟩)]] w0 fun e w' => e = .returned (.bool (l.any fun x => !p x))∧Below w0.heap.size w0 w'):=by
  refine containsM10_any (hX.later hb0) ⟨run_enter9 Tryz.func152 (by kernel_rfl) rfl,fun W hW x hx => ?_⟩
  have hA1:=hA.later hW
  have:=all1M10_any (x:=x) (w:=W) hA1.cell0 hA1.lt hf.enter (fun W2 hW2 => hf.tells W2 (bstep (bstep hb0 hW) hW2) x hx)
  simpa using this
 obtain ⟨sa,sc,hsv,_,_⟩:=hX.shape
 clear hw0 hb0 hA hX hf
 subst hsv
 go_enter Tryz.func103,Tryz.ntmps103
 go_wp2_with (rw [← HW0.out])
 refine Calls.mono HCo.out ?_
 rintro e w1 ⟨rfl,hb1⟩
 have HB1 : Hid (Below w.heap.size w w1):=bstep HB0.out hb1
 clear hb1
 go_wp2
 go_ret
 exact ⟨ret_bool HR.out.symm,HB1.out⟩
end Go.Proofs.YthpmpdpfnlecmaaGreat

namespace Go.Proofs.YthpmpdpfnlecmaaGreat
set_option linter.unusedVariables false
set_option linter.unusedSimpArgs false
open Go.RowKit
def cmpI (a b : Int) : Int:=if a < b then -1 else if b < a then 1 else 0

theorem nanI_any (a : Int) (w : World) : Calls Tryz.prog 177 #[.int .i64 a] w fun e w' => e = .returned (.bool false)∧w' = w:=by
 go_enter Tryz.func177,Tryz.ntmps177
 go_wp2
 go_ret
 exact ⟨rfl,rfl⟩
theorem compareI_any (a b : Int) (w : World) : Calls Tryz.prog 150 #[.int .i64 a,.int .i64 b] w fun e w' => e = .returned (.int .i64 (cmpI a b))∧w' = w:=by
 go_enter Tryz.func150,Tryz.ntmps150
 go_wp2_with (go_at_call 177; refine (nanI_any _ _).mono ?_; rintro e wz ⟨rfl,hz⟩; subst wz)
 all_goals (go_ret; exact ⟨ret_int (by unfold cmpI; omega),rfl⟩)
end Go.Proofs.YthpmpdpfnlecmaaGreat
