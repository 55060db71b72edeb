/- Texts joined: All10, Index13. -/
import Derived.Test.YthpmpdpfnlecmaaGreatQ08
import Derived.Test.YthpmpdpfnlecmaaGreatQ13
import Derived.Test.YthpmpdpfnlecmaaGreatQ09
namespace Go.Proofs.YthpmpdpfnlecmaaGreat
set_option linter.unusedVariables false
set_option linter.unusedSimpArgs false
open Go.RowKit
attribute [local go_sem ↓] Go.wp_at_zero Go.wp_at_succ
set_option maxHeartbeats 1000000 in
theorem indexY10_some {b off cap : Nat} {l : List Ty} {w : World} {f : FuncId} {bs cs : Array Value} {p : Ty → Bool} (hb : b < w.heap.size) (hc : ∀ i (hi : i < l.length),El tyE w b (off + i * 4) l[i]) (hl : l.length ≤ maxLen) (hf : Tells Tryz.prog tv w f bs cs p l) :
  Calls Tryz.prog 241 #[.slice (some ⟨b,off,none⟩) l.length cap,.func (.func f) bs cs] w fun e w' =>
   (∃ k : Int,e = .returned (.int .i64 k)∧(0 ≤ k ↔ l.any p = true))∧Below w.heap.size w w':=by
 unfold maxLen at hl
 have HC : Hid (∀ i (hi : i < l.length),El tyE w b (off + i * 4) l[i]):=hc
 have HF : Hid (Tells Tryz.prog tv w f bs cs p l):=hf
 have hen:=hf.enter
 clear hc hf
 go_enter Tryz.func241,Tryz.ntmps241
 go_wp2_with fail
 go_loopw [5,8] (fun _ z wr => ∃ q : Nat,q ≤ l.length∧z = .int .i64 q∧Below w.heap.size w wr∧(l.take q).any p = false) (fun _ z _ => l.length - (intOf z).toNat)
 case atStart => exact ⟨0,Nat.zero_le _,rfl,Below.refl _ _,by simp⟩
 case round =>
  obtain ⟨q,hq,rfl,hB,hany⟩:=hrel
  have HAn : Hid ((l.take q).any p = false):=hany
  have hsz:=hB.size
  clear hany
  by_cases hql : q < l.length
  ·obtain ⟨c0,c1,c2,c3⟩:=((HC.out q hql).below hB hb).cells_Y
   have HN : Hid (p l[q] = false → (l.take (q + 1)).any p = false):=any_take9 hql HAn.out
   have HY : Hid (p l[q] = true → l.any p = true):=fun h => List.any_eq_true.2 ⟨_,List.getElem_mem hql,h⟩
   have HL : Hid (Calls Tryz.prog f (bs.push (tv l[q]) ++ cs) wr fun e w' => e = .returned (.bool (p l[q]))∧Below wr.heap.size wr w'):=HF.out.tells wr hB _ (List.getElem_mem hql)
   generalize l[q] = x at *
   have HBL : Hid (Below w.heap.size w wr):=hB
   clear hB
   cases hx : p x with
   | false =>
    have H1 : Hid ((l.take (q + 1)).any p = false):=HN.out hx
    rw [hx] at HL
    go_wp2_with fail
    refine Calls.mono HL.out ?_
    rintro e w1 ⟨rfl,hb1⟩
    have hB1:=bstep HBL.out hb1
    clear hb1
    go_wp2_with fail
    go_roundw
    case rel => exact ⟨q + 1,by omega,by go_num,hB1,H1.out⟩
    case measure => simp [intOf]; omega
   | true =>
    have H1 : Hid (l.any p = true):=HY.out hx
    rw [hx] at HL
    go_wp2_with fail
    refine Calls.mono HL.out ?_
    rintro e w1 ⟨rfl,hb1⟩
    have hB1:=bstep HBL.out hb1
    clear hb1
    go_wp2_with fail
    go_ret
    exact ⟨⟨_,rfl,⟨fun _ => H1.out,fun _ => by omega⟩⟩,hB1⟩
  ·have HF' : Hid (l.any p = false):=by
    show _ = _
    have:=HAn.out
    rwa [List.take_of_length_le (by omega)] at this
   go_wp2
   go_ret
   exact ⟨⟨_,rfl,⟨fun h => absurd h (by decide),fun h => absurd h (by rw [HF'.out]; decide)⟩⟩,hB⟩

theorem indexY10_none (a : Option Addr) (cap : Nat) (f : Value) (w : World) :
  Calls Tryz.prog 241 #[.slice a 0 cap,f] w fun e w' => e = .returned (.int .i64 (-1))∧w' = w:=by
 go_enter Tryz.func241,Tryz.ntmps241
 go_wp2
 refine wp_loop_rounds 1 ?_; rw [rounds_succ]
 go_wp2
 go_ret
 exact ⟨rfl,rfl⟩

theorem containsY10_any {v : Value} {l : List Ty} {w : World} (hX : Es tyE w v l) {f : FuncId} {bs cs : Array Value} {p : Ty → Bool} (hf : Tells Tryz.prog tv w f bs cs p l) :
  Calls Tryz.prog 222 #[v,.func (.func f) bs cs] w fun e w' => e = .returned (.bool (l.any p))∧Below w.heap.size w w':=by
 have HI : Hid (Calls Tryz.prog 241 #[v,.func (.func f) bs cs] w fun e w' => (∃ k : Int,e = .returned (.int .i64 k)∧(0 ≤ k ↔ l.any p = true))∧Below w.heap.size w w'):=by
  by_cases hne : l = []
  ·subst hne
   obtain ⟨a,c,rfl,_,_⟩:=hX.shape
   refine (indexY10_none a c _ w).mono ?_
   rintro e w' ⟨rfl,rfl⟩
   exact ⟨⟨_,rfl,⟨fun h => absurd h (by decide),fun h => by simp at h⟩⟩,Below.refl _ _⟩
  ·have hl:=hX.len
   obtain ⟨b,off,cap,rfl,h1,h2,hb,hc⟩:=hX.parts hne
   exact indexY10_some hb hc hl hf
 clear hX hf
 go_enter Tryz.func222,Tryz.ntmps222
 go_wp2_with fail
 refine Calls.mono HI.out ?_
 rintro e w1 ⟨⟨k,rfl,hk⟩,hb1⟩
 have HK : Hid (decide (0 ≤ k) = l.any p):=by
  show _ = _
  rw [Bool.eq_iff_iff,decide_eq_true_iff]; exact hk
 clear hk
 go_wp2
 go_ret
 exact ⟨ret_bool HK.out,hb1⟩

set_option maxHeartbeats 1000000 in
theorem all1Y10_any {x : Ty} {g : Nat} {w : World} {f : FuncId} {bs cs : Array Value} {y : Bool} (hg : w.cell? ⟨g,0,none⟩ = some (.func (.func f) bs cs)) (hlt : g < w.heap.size)
  (hen : ∀ args W,(callFunc f args).run Tryz.prog W = .ok (.enter f args) W) (hc : ∀ W,Below w.heap.size w W → Calls Tryz.prog f (bs.push (tv x) ++ cs) W fun e w' => e = .returned (.bool y)∧Below W.heap.size W w') :
  Calls Tryz.prog 223 #[tv x,.pointer (some ⟨g,0,none⟩)] w fun e w' => e = .returned (.bool (!y))∧Below w.heap.size w w':=by
 obtain ⟨w0,hw0⟩ : ∃ W,W = w.alloc (.cells #[.int .i64 x.1,.int .i64 x.2.1,.int .i64 x.2.2.1,.bool x.2.2.2] 51):=⟨_,rfl⟩
 have HW0 : Hid (w0 = _):=hw0
 have hb0 : Below w.heap.size w w0:=by rw [hw0]; exact made_below _ _ _
 have HB0 : Hid (Below w.heap.size w w0):=hb0
 have hA : At w0 w.heap.size #[.int .i64 x.1,.int .i64 x.2.1,.int .i64 x.2.2.1,.bool x.2.2.2] 51:=by rw [hw0]; exact At.made w _ _
 have hg0 : w0.cell? ⟨g,0,none⟩ = some (.func (.func f) bs cs):=by rw [← hg]; exact hb0.cell (p:=⟨g,0,none⟩) hlt
 have HCL : Hid (Calls Tryz.prog f (bs.push (.agg #[.int .i64 x.1,.int .i64 x.2.1,.int .i64 x.2.2.1,.bool x.2.2.2]) ++ cs) w0 fun e w' => e = .returned (.bool y)∧Below w0.heap.size w0 w'):=hc w0 hb0
 have hcells:=hA.cell
 clear hc hg hw0 hb0 hA
 unfold tv
 go_enter Tryz.func223,Tryz.ntmps223
 go_wp2_with (rw [← HW0.out])
 refine Calls.mono HCL.out ?_
 rintro e w1 ⟨rfl,hb1⟩
 have HB1 : Hid (Below w.heap.size w w1):=bstep HB0.out hb1
 clear hb1 hcells
 go_wp2
 go_ret
 exact ⟨rfl,HB1.out⟩

set_option maxHeartbeats 1000000 in
theorem allY10_any {v : Value} {l : List Ty} {w : World} (hX : Es tyE w v l) {f : FuncId} {bs cs : Array Value} {p : Ty → Bool} (hf : Tells Tryz.prog tv w f bs cs p l) :
  Calls Tryz.prog 193 #[v,.func (.func f) bs cs] w fun e w' => e = .returned (.bool (l.all p))∧Below w.heap.size w w':=by
 have HR : Hid (l.all p = !(l.any fun x => !p x)):=any_not9 p l
 obtain ⟨w0,hw0⟩ : ∃ W,W = w.alloc (.cells #[.func (.func f) bs cs] 92):=⟨_,rfl⟩
 have HW0 : Hid (w0 = _):=hw0
 have hb0 : Below w.heap.size w w0:=by rw [hw0]; exact made_below _ _ _
 have HB0 : Hid (Below w.heap.size w w0):=hb0
 have hA : At w0 w.heap.size #[.func (.func f) bs cs] 92:=by rw [hw0]; exact At.made w _ _
 have HCo : Hid (Calls Tryz.prog 222 #[v,.func (.func 223) #[] #[.pointer (some ⟨w.heap.size,0,none⟩)]] w0 fun e w' => e = .returned (.bool (l.any fun x => !p x))∧Below w0.heap.size w0 w'):=by
  refine containsY10_any (hX.later hb0) ⟨run_enter9 Tryz.func223 (by kernel_rfl) rfl,fun W hW x hx => ?_⟩
  have hA1:=hA.later hW
  have:=all1Y10_any (x:=x) (w:=W) hA1.cell0 hA1.lt hf.enter (fun W2 hW2 => hf.tells W2 (bstep (bstep hb0 hW) hW2) x hx)
  simpa using this
 obtain ⟨sa,sc,hsv,_,_⟩:=hX.shape
 clear hw0 hb0 hA hX hf
 subst hsv
 go_enter Tryz.func193,Tryz.ntmps193
 go_wp2_with (rw [← HW0.out])
 refine Calls.mono HCo.out ?_
 rintro e w1 ⟨rfl,hb1⟩
 have HB1 : Hid (Below w.heap.size w w1):=bstep HB0.out hb1
 clear hb1
 go_wp2
 go_ret
 exact ⟨ret_bool HR.out.symm,HB1.out⟩

set_option maxHeartbeats 1000000 in
theorem indexI10_some {b off cap : Nat} {l : List Ins} {w : World} {f : FuncId} {bs cs : Array Value} {p : Ins → Bool} (hb : b < w.heap.size) (hc : ∀ i (hi : i < l.length),El insE w b (off + i * 6) l[i]) (hl : l.length ≤ maxLen) (hf : Tells Tryz.prog iv w f bs cs p l) :
  Calls Tryz.prog 242 #[.slice (some ⟨b,off,none⟩) l.length cap,.func (.func f) bs cs] w fun e w' =>
   (∃ k : Int,e = .returned (.int .i64 k)∧(0 ≤ k ↔ l.any p = true))∧Below w.heap.size w w':=by
 unfold maxLen at hl
 have HC : Hid (∀ i (hi : i < l.length),El insE w b (off + i * 6) l[i]):=hc
 have HF : Hid (Tells Tryz.prog iv w f bs cs p l):=hf
 have hen:=hf.enter
 clear hc hf
 go_enter Tryz.func242,Tryz.ntmps242
 go_wp2_with fail
 go_loopw [5,8] (fun _ z wr => ∃ q : Nat,q ≤ l.length∧z = .int .i64 q∧Below w.heap.size w wr∧(l.take q).any p = false) (fun _ z _ => l.length - (intOf z).toNat)
 case atStart => exact ⟨0,Nat.zero_le _,rfl,Below.refl _ _,by simp⟩
 case round =>
  obtain ⟨q,hq,rfl,hB,hany⟩:=hrel
  have HAn : Hid ((l.take q).any p = false):=hany
  have hsz:=hB.size
  clear hany
  by_cases hql : q < l.length
  ·obtain ⟨c0,c1,c2,c3,c4,c5⟩:=((HC.out q hql).below hB hb).cells_I
   have HN : Hid (p l[q] = false → (l.take (q + 1)).any p = false):=any_take9 hql HAn.out
   have HY : Hid (p l[q] = true → l.any p = true):=fun h => List.any_eq_true.2 ⟨_,List.getElem_mem hql,h⟩
   have HL : Hid (Calls Tryz.prog f (bs.push (iv l[q]) ++ cs) wr fun e w' => e = .returned (.bool (p l[q]))∧Below wr.heap.size wr w'):=HF.out.tells wr hB _ (List.getElem_mem hql)
   generalize l[q] = x at *
   have HBL : Hid (Below w.heap.size w wr):=hB
   clear hB
   cases hx : p x with
   | false =>
    have H1 : Hid ((l.take (q + 1)).any p = false):=HN.out hx
    rw [hx] at HL
    go_wp2_with fail
    refine Calls.mono HL.out ?_
    rintro e w1 ⟨rfl,hb1⟩
    have hB1:=bstep HBL.out hb1
    clear hb1
    go_wp2_with fail
    go_roundw
    case rel => exact ⟨q + 1,by omega,by go_num,hB1,H1.out⟩
    case measure => simp [intOf]; omega
   | true =>
    have H1 : Hid (l.any p = true):=HY.out hx
    rw [hx] at HL
    go_wp2_with fail
    refine Calls.mono HL.out ?_
    rintro e w1 ⟨rfl,hb1⟩
    have hB1:=bstep HBL.out hb1
    clear hb1
    go_wp2_with fail
    go_ret
    exact ⟨⟨_,rfl,⟨fun _ => H1.out,fun _ => by omega⟩⟩,hB1⟩
  ·have HF' : Hid (l.any p = false):=by
    show _ = _
    have:=HAn.out
    rwa [List.take_of_length_le (by omega)] at this
   go_wp2
   go_ret
   exact ⟨⟨_,rfl,⟨fun h => absurd h (by decide),fun h => absurd h (by rw [HF'.out]; decide)⟩⟩,hB⟩

theorem indexI10_none (a : Option Addr) (cap : Nat) (f : Value) (w : World) :
  Calls Tryz.prog 242 #[.slice a 0 cap,f] w fun e w' => e = .returned (.int .i64 (-1))∧w' = w:=by
 go_enter Tryz.func242,Tryz.ntmps242
 go_wp2
 refine wp_loop_rounds 1 ?_; rw [rounds_succ]
 go_wp2
 go_ret
 exact ⟨rfl,rfl⟩

theorem containsI10_any {v : Value} {l : List Ins} {w : World} (hX : Es insE w v l) {f : FuncId} {bs cs : Array Value} {p : Ins → Bool} (hf : Tells Tryz.prog iv w f bs cs p l) :
  Calls Tryz.prog 224 #[v,.func (.func f) bs cs] w fun e w' => e = .returned (.bool (l.any p))∧Below w.heap.size w w':=by
 have HI : Hid (Calls Tryz.prog 242 #[v,.func (.func f) bs cs] w fun e w' => (∃ k : Int,e = .returned (.int .i64 k)∧(0 ≤ k ↔ l.any p = true))∧Below w.heap.size w w'):=by
  by_cases hne : l = []
  ·subst hne
   obtain ⟨a,c,rfl,_,_⟩:=hX.shape
   refine (indexI10_none a c _ w).mono ?_
   rintro e w' ⟨rfl,rfl⟩
   exact ⟨⟨_,rfl,⟨fun h => absurd h (by decide),fun h => by simp at h⟩⟩,Below.refl _ _⟩
  ·have hl:=hX.len
   obtain ⟨b,off,cap,rfl,h1,h2,hb,hc⟩:=hX.parts hne
   exact indexI10_some hb hc hl hf
 clear hX hf
 go_enter Tryz.func224,Tryz.ntmps224
 go_wp2_with fail
 refine Calls.mono HI.out ?_
 rintro e w1 ⟨⟨k,rfl,hk⟩,hb1⟩
 have HK : Hid (decide (0 ≤ k) = l.any p):=by
  show _ = _
  rw [Bool.eq_iff_iff,decide_eq_true_iff]; exact hk
 clear hk
 go_wp2
 go_ret
 exact ⟨ret_bool HK.out,hb1⟩

set_option maxHeartbeats 1000000 in
theorem all1I10_any {x : Ins} {g : Nat} {w : World} {f : FuncId} {bs cs : Array Value} {y : Bool} (hg : w.cell? ⟨g,0,none⟩ = some (.func (.func f) bs cs)) (hlt : g < w.heap.size)
  (hen : ∀ args W,(callFunc f args).run Tryz.prog W = .ok (.enter f args) W) (hc : ∀ W,Below w.heap.size w W → Calls Tryz.prog f (bs.push (iv x) ++ cs) W fun e w' => e = .returned (.bool y)∧Below W.heap.size W w') :
  Calls Tryz.prog 225 #[iv x,.pointer (some ⟨g,0,none⟩)] w fun e w' => e = .returned (.bool (!y))∧Below w.heap.size w w':=by
 obtain ⟨w0,hw0⟩ : ∃ W,W = w.alloc (.cells #[.int .i64 x.1,.int .i64 x.2.1,.int .i64 x.2.2.1,.int .i64 x.2.2.2.1,.int .i64 x.2.2.2.2.1,.bool x.2.2.2.2.2] 89):=⟨_,rfl⟩
 have HW0 : Hid (w0 = _):=hw0
 have hb0 : Below w.heap.size w w0:=by rw [hw0]; exact made_below _ _ _
 have HB0 : Hid (Below w.heap.size w w0):=hb0
 have hA : At w0 w.heap.size #[.int .i64 x.1,.int .i64 x.2.1,.int .i64 x.2.2.1,.int .i64 x.2.2.2.1,.int .i64 x.2.2.2.2.1,.bool x.2.2.2.2.2] 89:=by rw [hw0]; exact At.made w _ _
 have hg0 : w0.cell? ⟨g,0,none⟩ = some (.func (.func f) bs cs):=by rw [← hg]; exact hb0.cell (p:=⟨g,0,none⟩) hlt
 have HCL : Hid (Calls Tryz.prog f (bs.push (.agg #[.int .i64 x.1,.int .i64 x.2.1,.int .i64 x.2.2.1,.int .i64 x.2.2.2.1,.int .i64 x.2.2.2.2.1,.bool x.2.2.2.2.2]) ++ cs) w0 fun e w' => e = .returned (.bool y)∧Below w0.heap.size w0 w'):=hc w0 hb0
 have hcells:=hA.cell
 clear hc hg hw0 hb0 hA
 unfold iv
 go_enter Tryz.func225,Tryz.ntmps225
 go_wp2_with (rw [← HW0.out])
 refine Calls.mono HCL.out ?_
 rintro e w1 ⟨rfl,hb1⟩
 have HB1 : Hid (Below w.heap.size w w1):=bstep HB0.out hb1
 clear hb1 hcells
 go_wp2
 go_ret
 exact ⟨rfl,HB1.out⟩

set_option maxHeartbeats 1000000 in
theorem allI10_any {v : Value} {l : List Ins} {w : World} (hX : Es insE w v l) {f : FuncId} {bs cs : Array Value} {p : Ins → Bool} (hf : Tells Tryz.prog iv w f bs cs p l) :
  Calls Tryz.prog 195 #[v,.func (.func f) bs cs] w fun e w' => e = .returned (.bool (l.all p))∧Below w.heap.size w w':=by
 have HR : Hid (l.all p = !(l.any fun x => !p x)):=any_not9 p l
 obtain ⟨w0,hw0⟩ : ∃ W,W = w.alloc (.cells #[.func (.func f) bs cs] 173):=⟨_,rfl⟩
 have HW0 : Hid (w0 = _):=hw0
 have hb0 : Below w.heap.size w w0:=by rw [hw0]; exact made_below _ _ _
 have HB0 : Hid (Below w.heap.size w w0):=hb0
 have hA : At w0 w.heap.size #[.func (.func f) bs cs] 173:=by rw [hw0]; exact At.made w _ _
 have HCo : Hid (Calls Tryz.prog 224 #[v,.func (.func 225) #[] #[.pointer (some ⟨w.heap.size,0,none⟩)]] w0 fun e w' => e = .returned (.bool (l.any fun x => !p x))∧Below w0.heap.size w0 w'):=by
  refine containsI10_any (hX.later hb0) ⟨run_enter9 Tryz.func225 (by kernel_rfl) rfl,fun W hW x hx => ?_⟩
  have hA1:=hA.later hW
  have:=all1I10_any (x:=x) (w:=W) hA1.cell0 hA1.lt hf.enter (fun W2 hW2 => hf.tells W2 (bstep (bstep hb0 hW) hW2) x hx)
  simpa using this
 obtain ⟨sa,sc,hsv,_,_⟩:=hX.shape
 clear hw0 hb0 hA hX hf
 subst hsv
 go_enter Tryz.func195,Tryz.ntmps195
 go_wp2_with (rw [← HW0.out])
 refine Calls.mono HCo.out ?_
 rintro e w1 ⟨rfl,hb1⟩
 have HB1 : Hid (Below w.heap.size w w1):=bstep HB0.out hb1
 clear hb1
 go_wp2
 go_ret
 exact ⟨ret_bool HR.out.symm,HB1.out⟩

set_option maxHeartbeats 1000000 in
theorem all1C10_any {x : Cl} {g : Nat} {w : World} {f : FuncId} {bs cs : Array Value} {y : Bool} (hg : w.cell? ⟨g,0,none⟩ = some (.func (.func f) bs cs)) (hlt : g < w.heap.size)
  (hen : ∀ args W,(callFunc f args).run Tryz.prog W = .ok (.enter f args) W) (hc : ∀ W,Below w.heap.size w W → Calls Tryz.prog f (bs.push (clV x) ++ cs) W fun e w' => e = .returned (.bool y)∧Below W.heap.size W w') :
  Calls Tryz.prog 234 #[clV x,.pointer (some ⟨g,0,none⟩)] w fun e w' => e = .returned (.bool (!y))∧Below w.heap.size w w':=by
 obtain ⟨w0,hw0⟩ : ∃ W,W = w.alloc (.cells #[.int .i64 x.k,.int .i64 x.tf,.int .i64 x.tt,.int .i64 x.hf,.int .i64 x.ht,.int .i64 x.fi,.int .i64 x.t0,.int .i64 x.t1,.int .i64 x.t2,.bool x.t3] 101):=⟨_,rfl⟩
 have HW0 : Hid (w0 = _):=hw0
 have hb0 : Below w.heap.size w w0:=by rw [hw0]; exact made_below _ _ _
 have HB0 : Hid (Below w.heap.size w w0):=hb0
 have hA : At w0 w.heap.size #[.int .i64 x.k,.int .i64 x.tf,.int .i64 x.tt,.int .i64 x.hf,.int .i64 x.ht,.int .i64 x.fi,.int .i64 x.t0,.int .i64 x.t1,.int .i64 x.t2,.bool x.t3] 101:=by rw [hw0]; exact At.made w _ _
 have hg0 : w0.cell? ⟨g,0,none⟩ = some (.func (.func f) bs cs):=by rw [← hg]; exact hb0.cell (p:=⟨g,0,none⟩) hlt
 have HCL : Hid (Calls Tryz.prog f (bs.push (.agg #[.int .i64 x.k,.int .i64 x.tf,.int .i64 x.tt,.int .i64 x.hf,.int .i64 x.ht,.int .i64 x.fi,.int .i64 x.t0,.int .i64 x.t1,.int .i64 x.t2,.bool x.t3]) ++ cs) w0 fun e w' => e = .returned (.bool y)∧Below w0.heap.size w0 w'):=hc w0 hb0
 have hcells:=hA.cell
 clear hc hg hw0 hb0 hA
 unfold clV
 go_enter Tryz.func234,Tryz.ntmps234
 go_wp2_with (rw [← HW0.out])
 refine Calls.mono HCL.out ?_
 rintro e w1 ⟨rfl,hb1⟩
 have HB1 : Hid (Below w.heap.size w w1):=bstep HB0.out hb1
 clear hb1 hcells
 go_wp2
 go_ret
 exact ⟨rfl,HB1.out⟩

set_option maxHeartbeats 1000000 in
theorem allC10_any {v : Value} {l : List Cl} {w : World} (hX : Es clE9 w v l) {f : FuncId} {bs cs : Array Value} {p : Cl → Bool} (hf : Tells Tryz.prog clV w f bs cs p l) :
  Calls Tryz.prog 200 #[v,.func (.func f) bs cs] w fun e w' => e = .returned (.bool (l.all p))∧Below w.heap.size w w':=by
 have HR : Hid (l.all p = !(l.any fun x => !p x)):=any_not9 p l
 obtain ⟨w0,hw0⟩ : ∃ W,W = w.alloc (.cells #[.func (.func f) bs cs] 176):=⟨_,rfl⟩
 have HW0 : Hid (w0 = _):=hw0
 have hb0 : Below w.heap.size w w0:=by rw [hw0]; exact made_below _ _ _
 have HB0 : Hid (Below w.heap.size w w0):=hb0
 have hA : At w0 w.heap.size #[.func (.func f) bs cs] 176:=by rw [hw0]; exact At.made w _ _
 have HCo : Hid (Calls Tryz.prog 233 #[v,.func (.func 234) #[] #[.pointer (some ⟨w.heap.size,0,none⟩)]] w0 fun e w' => e = .returned (.bool (l.any fun x => !p x))∧Below w0.heap.size w0 w'):=by
  refine containsC_any (hX.later hb0) ⟨run_enter9 Tryz.func234 (by kernel_rfl) rfl,fun W hW x hx => ?_⟩
  have hA1:=hA.later hW
  have:=all1C10_any (x:=x) (w:=W) hA1.cell0 hA1.lt hf.enter (fun W2 hW2 => hf.tells W2 (bstep (bstep hb0 hW) hW2) x hx)
  simpa using this
 obtain ⟨sa,sc,hsv,_,_⟩:=hX.shape
 clear hw0 hb0 hA hX hf
 subst hsv
 go_enter Tryz.func200,Tryz.ntmps200
 go_wp2_with (rw [← HW0.out])
 refine Calls.mono HCo.out ?_
 rintro e w1 ⟨rfl,hb1⟩
 have HB1 : Hid (Below w.heap.size w w1):=bstep HB0.out hb1
 clear hb1
 go_wp2
 go_ret
 exact ⟨ret_bool HR.out.symm,HB1.out⟩

set_option maxHeartbeats 1000000 in
theorem indexN10_some {b off cap : Nat} {l : List Int} {w : World} {f : FuncId} {bs cs : Array Value} {p : Int → Bool} (hb : b < w.heap.size) (hc : ∀ i (hi : i < l.length),El intE w b (off + i * 1) l[i]) (hl : l.length ≤ maxLen) (hf : Tells Tryz.prog intV w f bs cs p l) :
  Calls Tryz.prog 183 #[.slice (some ⟨b,off,none⟩) l.length cap,.func (.func f) bs cs] w fun e w' =>
   (∃ k : Int,e = .returned (.int .i64 k)∧(0 ≤ k ↔ l.any p = true))∧Below w.heap.size w w':=by
 unfold maxLen at hl
 have HC : Hid (∀ i (hi : i < l.length),El intE w b (off + i * 1) l[i]):=hc
 have HF : Hid (Tells Tryz.prog intV w f bs cs p l):=hf
 have hen:=hf.enter
 clear hc hf
 go_enter Tryz.func183,Tryz.ntmps183
 go_wp2_with fail
 go_loopw [5,8] (fun _ z wr => ∃ q : Nat,q ≤ l.length∧z = .int .i64 q∧Below w.heap.size w wr∧(l.take q).any p = false) (fun _ z _ => l.length - (intOf z).toNat)
 case atStart => exact ⟨0,Nat.zero_le _,rfl,Below.refl _ _,by simp⟩
 case round =>
  obtain ⟨q,hq,rfl,hB,hany⟩:=hrel
  have HAn : Hid ((l.take q).any p = false):=hany
  have hsz:=hB.size
  clear hany
  by_cases hql : q < l.length
  ·have c0:=((HC.out q hql).below hB hb).cells_N
   have HN : Hid (p l[q] = false → (l.take (q + 1)).any p = false):=any_take9 hql HAn.out
   have HY : Hid (p l[q] = true → l.any p = true):=fun h => List.any_eq_true.2 ⟨_,List.getElem_mem hql,h⟩
   have HL : Hid (Calls Tryz.prog f (bs.push (intV l[q]) ++ cs) wr fun e w' => e = .returned (.bool (p l[q]))∧Below wr.heap.size wr w'):=HF.out.tells wr hB _ (List.getElem_mem hql)
   generalize l[q] = x at *
   have HBL : Hid (Below w.heap.size w wr):=hB
   clear hB
   cases hx : p x with
   | false =>
    have H1 : Hid ((l.take (q + 1)).any p = false):=HN.out hx
    rw [hx] at HL
    go_wp2_with fail
    refine Calls.mono HL.out ?_
    rintro e w1 ⟨rfl,hb1⟩
    have hB1:=bstep HBL.out hb1
    clear hb1
    go_wp2_with fail
    go_roundw
    case rel => exact ⟨q + 1,by omega,by go_num,hB1,H1.out⟩
    case measure => simp [intOf]; omega
   | true =>
    have H1 : Hid (l.any p = true):=HY.out hx
    rw [hx] at HL
    go_wp2_with fail
    refine Calls.mono HL.out ?_
    rintro e w1 ⟨rfl,hb1⟩
    have hB1:=bstep HBL.out hb1
    clear hb1
    go_wp2_with fail
    go_ret
    exact ⟨⟨_,rfl,⟨fun _ => H1.out,fun _ => by omega⟩⟩,hB1⟩
  ·have HF' : Hid (l.any p = false):=by
    show _ = _
    have:=HAn.out
    rwa [List.take_of_length_le (by omega)] at this
   go_wp2
   go_ret
   exact ⟨⟨_,rfl,⟨fun h => absurd h (by decide),fun h => absurd h (by rw [HF'.out]; decide)⟩⟩,hB⟩

theorem indexN10_none (a : Option Addr) (cap : Nat) (f : Value) (w : World) :
  Calls Tryz.prog 183 #[.slice a 0 cap,f] w fun e w' => e = .returned (.int .i64 (-1))∧w' = w:=by
 go_enter Tryz.func183,Tryz.ntmps183
 go_wp2
 refine wp_loop_rounds 1 ?_; rw [rounds_succ]
 go_wp2
 go_ret
 exact ⟨rfl,rfl⟩

theorem containsN10_any {v : Value} {l : List Int} {w : World} (hX : Es intE w v l) {f : FuncId} {bs cs : Array Value} {p : Int → Bool} (hf : Tells Tryz.prog intV w f bs cs p l) :
  Calls Tryz.prog 158 #[v,.func (.func f) bs cs] w fun e w' => e = .returned (.bool (l.any p))∧Below w.heap.size w w':=by
 have HI : Hid (Calls Tryz.prog 183 #[v,.func (.func f) bs cs] w fun e w' => (∃ k : Int,e = .returned (.int .i64 k)∧(0 ≤ k ↔ l.any p = true))∧Below w.heap.size w w'):=by
  by_cases hne : l = []
  ·subst hne
   obtain ⟨a,c,rfl,_,_⟩:=hX.shape
   refine (indexN10_none a c _ w).mono ?_
   rintro e w' ⟨rfl,rfl⟩
   exact ⟨⟨_,rfl,⟨fun h => absurd h (by decide),fun h => by simp at h⟩⟩,Below.refl _ _⟩
  ·have hl:=hX.len
   obtain ⟨b,off,cap,rfl,h1,h2,hb,hc⟩:=hX.parts hne
   exact indexN10_some hb hc hl hf
 clear hX hf
 go_enter Tryz.func158,Tryz.ntmps158
 go_wp2_with fail
 refine Calls.mono HI.out ?_
 rintro e w1 ⟨⟨k,rfl,hk⟩,hb1⟩
 have HK : Hid (decide (0 ≤ k) = l.any p):=by
  show _ = _
  rw [Bool.eq_iff_iff,decide_eq_true_iff]; exact hk
 clear hk
 go_wp2
 go_ret
 exact ⟨ret_bool HK.out,hb1⟩

set_option maxHeartbeats 1000000 in
theorem all1N10_any {x : Int} {g : Nat} {w : World} {f : FuncId} {bs cs : Array Value} {y : Bool} (hg : w.cell? ⟨g,0,none⟩ = some (.func (.func f) bs cs)) (hlt : g < w.heap.size)
  (hen : ∀ args W,(callFunc f args).run Tryz.prog W = .ok (.enter f args) W) (hc : ∀ W,Below w.heap.size w W → Calls Tryz.prog f (bs.push (intV x) ++ cs) W fun e w' => e = .returned (.bool y)∧Below W.heap.size W w') :
  Calls Tryz.prog 186 #[intV x,.pointer (some ⟨g,0,none⟩)] w fun e w' => e = .returned (.bool (!y))∧Below w.heap.size w w':=by
 have HCL : Hid (Calls Tryz.prog f (bs.push (.int .i64 x) ++ cs) w fun e w' => e = .returned (.bool y)∧Below w.heap.size w w'):=hc w (Below.refl _ _)
 clear hc
 unfold intV
 go_enter Tryz.func186,Tryz.ntmps186
 go_wp2_with fail
 refine Calls.mono HCL.out ?_
 rintro e w1 ⟨rfl,hb1⟩
 have HB1 : Hid (Below w.heap.size w w1):=hb1
 clear hb1
 go_wp2
 go_ret
 exact ⟨rfl,HB1.out⟩

set_option maxHeartbeats 1000000 in
theorem allN10_any {v : Value} {l : List Int} {w : World} (hX : Es intE w v l) {f : FuncId} {bs cs : Array Value} {p : Int → Bool} (hf : Tells Tryz.prog intV w f bs cs p l) :
  Calls Tryz.prog 146 #[v,.func (.func f) bs cs] w fun e w' => e = .returned (.bool (l.all p))∧Below w.heap.size w w':=by
 have HR : Hid (l.all p = !(l.any fun x => !p x)):=any_not9 p l
 obtain ⟨w0,hw0⟩ : ∃ W,W = w.alloc (.cells #[.func (.func f) bs cs] 139):=⟨_,rfl⟩
 have HW0 : Hid (w0 = _):=hw0
 have hb0 : Below w.heap.size w w0:=by rw [hw0]; exact made_below _ _ _
 have HB0 : Hid (Below w.heap.size w w0):=hb0
 have hA : At w0 w.heap.size #[.func (.func f) bs cs] 139:=by rw [hw0]; exact At.made w _ _
 have HCo : Hid (Calls Tryz.prog 158 #[v,.func (.func 186) #[] #[.pointer (some ⟨w.heap.size,0,none⟩)]] w0 fun e w' => e = .returned (.bool (l.any fun x => !p x))∧Below w0.heap.size w0 w'):=by
  refine containsN10_any (hX.later hb0) ⟨run_enter9 Tryz.func186 (by kernel_rfl) rfl,fun W hW x hx => ?_⟩
  have hA1:=hA.later hW
  have:=all1N10_any (x:=x) (w:=W) hA1.cell0 hA1.lt hf.enter (fun W2 hW2 => hf.tells W2 (bstep (bstep hb0 hW) hW2) x hx)
  simpa using this
 obtain ⟨sa,sc,hsv,_,_⟩:=hX.shape
 clear hw0 hb0 hA hX hf
 subst hsv
 go_enter Tryz.func146,Tryz.ntmps146
 go_wp2_with (rw [← HW0.out])
 refine Calls.mono HCo.out ?_
 rintro e w1 ⟨rfl,hb1⟩
 have HB1 : Hid (Below w.heap.size w w1):=bstep HB0.out hb1
 clear hb1
 go_wp2
 go_ret
 exact ⟨ret_bool HR.out.symm,HB1.out⟩
set_option maxHeartbeats 1000000 in
theorem indexF13_some {b off cap : Nat} {l : List Int} {w : World} {f : FuncId} {bs cs : Array Value} {p : Int → Bool} (hb : b < w.heap.size) (hc : ∀ i (hi : i < l.length),El intE w b (off + i * 1) l[i]) (hl : l.length ≤ maxLen) (hf : Tells Tryz.prog intV w f bs cs p l) :
  Calls Tryz.prog 183 #[.slice (some ⟨b,off,none⟩) l.length cap,.func (.func f) bs cs] w fun e w' => e = .returned (.int .i64 (fidI p l))∧Below w.heap.size w w':=by
 unfold maxLen at hl
 have HC : Hid (∀ i (hi : i < l.length),El intE w b (off + i * 1) l[i]):=hc
 have HF : Hid (Tells Tryz.prog intV w f bs cs p l):=hf
 have HY0 : Hid (∀ (q : Nat) (hq : q < l.length),(l.take q).any p = false → p l[q] = true → fidI p l = (q : Int)):=fun q hq h1 h2 => fid_yes hq h1 h2
 have HN0 : Hid (l.any p = false → fidI p l = -1):=fid_no
 have hen:=hf.enter
 clear hc hf
 generalize fidI p l = R at *
 go_enter Tryz.func183,Tryz.ntmps183
 go_wp2_with fail
 go_loopw [5,8] (fun _ z wr => ∃ q : Nat,q ≤ l.length∧z = .int .i64 q∧Below w.heap.size w wr∧(l.take q).any p = false) (fun _ z _ => l.length - (intOf z).toNat)
 case atStart => exact ⟨0,Nat.zero_le _,rfl,Below.refl _ _,by simp⟩
 case round =>
  obtain ⟨q,hq,rfl,hB,hany⟩:=hrel
  have HAn : Hid ((l.take q).any p = false):=hany
  have hsz:=hB.size
  clear hany
  by_cases hql : q < l.length
  ·have c0:=((HC.out q hql).below hB hb).cells_N
   have HN : Hid (p l[q] = false → (l.take (q + 1)).any p = false):=any_take9 hql HAn.out
   have HY : Hid (p l[q] = true → R = (q : Int)):=fun h => HY0.out q hql HAn.out h
   have HL : Hid (Calls Tryz.prog f (bs.push (intV l[q]) ++ cs) wr fun e w' => e = .returned (.bool (p l[q]))∧Below wr.heap.size wr w'):=HF.out.tells wr hB _ (List.getElem_mem hql)
   generalize l[q] = x at *
   have HBL : Hid (Below w.heap.size w wr):=hB
   clear hB
   cases hx : p x with
   | false =>
    have H1 : Hid ((l.take (q + 1)).any p = false):=HN.out hx
    rw [hx] at HL
    go_wp2_with fail
    refine Calls.mono HL.out ?_
    rintro e w1 ⟨rfl,hb1⟩
    have hB1:=bstep HBL.out hb1
    clear hb1
    go_wp2_with fail
    go_roundw
    case rel => exact ⟨q + 1,by omega,by go_num,hB1,H1.out⟩
    case measure => simp [intOf]; omega
   | true =>
    have H1 : Hid (R = (q : Int)):=HY.out hx
    rw [hx] at HL
    go_wp2_with fail
    refine Calls.mono HL.out ?_
    rintro e w1 ⟨rfl,hb1⟩
    have hB1:=bstep HBL.out hb1
    clear hb1
    go_wp2_with fail
    go_ret
    exact ⟨ret_int H1.out.symm,hB1⟩
  ·have HF' : Hid (R = -1):=by
    show _ = _
    have:=HAn.out
    rw [List.take_of_length_le (by omega)] at this
    exact HN0.out this
   go_wp2
   go_ret
   exact ⟨ret_int HF'.out.symm,hB⟩

theorem indexF13_any {v : Value} {l : List Int} {w : World} (hX : Is w v l) {f : FuncId} {bs cs : Array Value} {p : Int → Bool} (hf : Tells Tryz.prog intV w f bs cs p l) :
  Calls Tryz.prog 183 #[v,.func (.func f) bs cs] w fun e w' => e = .returned (.int .i64 (fidI p l))∧Below w.heap.size w w':=by
 have hX:=hX.toEs
 by_cases hne : l = []
 ·subst hne
  obtain ⟨a,c,rfl,_,_⟩:=hX.shape
  refine (indexN10_none a c _ w).mono ?_
  rintro e w' ⟨rfl,rfl⟩
  exact ⟨rfl,Below.refl _ _⟩
 ·have hl:=hX.len
  obtain ⟨b,off,cap,rfl,h1,h2,hb,hc⟩:=hX.parts hne
  exact indexF13_some hb hc hl hf

set_option maxHeartbeats 1000000 in
theorem index13_some {b off cap : Nat} {l : List Int} {n : Int} {w : World} (hl : l.length ≤ maxLen) (hc : ∀ i (hi : i < l.length),w.cell? ⟨b,off + i,none⟩ = some (.int .i64 l[i])) :
  Calls Tryz.prog 69 #[.slice (some ⟨b,off,none⟩) l.length cap,.int .i64 n] w fun e w' => e = .returned (.int .i64 (ixI l n))∧w' = w:=by
 unfold maxLen at hl
 have HC : Hid (∀ i (hi : i < l.length),w.cell? ⟨b,off + i,none⟩ = some (.int .i64 l[i])):=hc
 have HY0 : Hid (∀ (q : Nat) (hq : q < l.length),(l.take q).any (fun k => k == n) = false → l[q] = n → ixI l n = (q : Int)):=fun q hq h1 h2 => fid_yes hq h1 (by simpa using h2)
 have HN0 : Hid (l.any (fun k => k == n) = false → ixI l n = -1):=fid_no
 clear hc
 generalize ixI l n = R at *
 go_enter Tryz.func69,Tryz.ntmps69
 go_wp2_with fail
 go_loopw [5,8] (fun _ z wr => ∃ q : Nat,q ≤ l.length∧z = .int .i64 q∧wr = w∧Hid ((l.take q).any (fun k => k == n) = false)) (fun _ z _ => l.length - (intOf z).toNat)
 case atStart => exact ⟨0,Nat.zero_le _,rfl,rfl,by show _ = _; simp⟩
 case round =>
  obtain ⟨q,hq,rfl,rfl,HA⟩:=hrel
  by_cases hql : q < l.length
  ·have cq:=HC.out q hql
   have HY : Hid (l[q] ≠ n → (l.take (q + 1)).any (fun k => k == n) = false):=fun h => any_take9 hql HA.out (by simpa using h)
   have HN : Hid (l[q] = n → R = (q : Int)):=fun h => HY0.out q hql HA.out h
   generalize l[q] = y at *
   by_cases hyn : y = n
   ·have hb : (n == y) = true:=by simpa using hyn.symm
    have HRh : Hid (R = (q : Int)):=HN.out hyn
    clear HY HN hyn
    go_wp2_with fail
    go_ret
    exact ⟨ret_int HRh.out.symm,rfl⟩
   ·have hb : (n == y) = false:=by simpa using fun h => hyn (Eq.symm h)
    have HY2 : Hid ((l.take (q + 1)).any (fun k => k == n) = false):=HY.out hyn
    clear HY HN hyn
    go_wp2_with fail
    go_roundw
    case rel => exact ⟨q + 1,by omega,by go_num,by simp,HY2.out⟩
    case measure => simp [intOf]; omega
  ·have HD : Hid (R = -1):=by
    show _ = _
    have:=HA.out
    rw [List.take_of_length_le (by omega)] at this
    exact HN0.out this
   go_wp2_with fail
   go_ret
   exact ⟨ret_int HD.out.symm,rfl⟩
theorem index13_any {v : Value} {l : List Int} {w : World} (h : Is w v l) (n : Int) :
  Calls Tryz.prog 69 #[v,.int .i64 n] w fun e w' => e = .returned (.int .i64 (ixI l n))∧w' = w:=by
 by_cases hne : l = []
 ·subst hne
  obtain ⟨a,c,rfl,_,_⟩:=h.shape
  refine (index11_none a c n w).mono ?_
  rintro e w' ⟨rfl,rfl⟩
  exact ⟨rfl,rfl⟩
 ·obtain ⟨b,off,cap,rfl,h1,h2,hb,hc⟩:=h.parts hne
  exact index13_some (by omega) hc
end Go.Proofs.YthpmpdpfnlecmaaGreat
