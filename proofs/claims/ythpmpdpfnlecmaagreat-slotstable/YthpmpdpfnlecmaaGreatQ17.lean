/- Texts joined: ChkOwn11, Fits9. -/
import Derived.Test.YthpmpdpfnlecmaaGreatQ16
import Derived.Test.YthpmpdpfnlecmaaGreatQ10
import Derived.Test.YthpmpdpfnlecmaaGreatQ08
namespace Go.Proofs.YthpmpdpfnlecmaaGreat
set_option linter.unusedVariables false
set_option linter.unusedSimpArgs false
open Go.RowKit
attribute [local go_sem ↓] Go.wp_at_zero Go.wp_at_succ
theorem pkN_map {α : Type} (t : Int) (f : α → Int) : ∀ (l : List α) (i : Int),pkN (fun x => decide (x = t)) i (l.map f) = pkN (fun x => decide (f x = t)) i l
 | [],_ => rfl
 | c :: r,i => by
  simp only [List.map_cons,pkN]
  rw [pkN_map t f r]
structure TellsN (P : Program) (w : World) (f : FuncId) (bs cs : Array Value) (os : List Int) : Prop where
 enter : ∀ args W,(callFunc f args).run P W = .ok (.enter f args) W
 tells : ∀ W,Below w.heap.size w W → ∀ i (h : i < os.length),Calls P f (bs.push (.int .i64 (i : Int)) ++ cs) W fun e w' => e = .returned (.int .i64 os[i])∧w' = W

set_option maxHeartbeats 4000000 in
theorem ownedBy_any {g : Img} {t : Int} {os : List Int} {f : FuncId} {bs cs : Array Value} {w : World} (hg : Im w g) (hn : os.length ≤ 1000) (hf : TellsN Tryz.prog w f bs cs os) :
  Calls Tryz.prog 85 #[imV g,.int .i64 t,.int .i64 os.length,.func (.func f) bs cs] w fun e w' => ∃ v,e = .returned v∧OwnI w' w.heap.size v (if numB t g.ts.length = true then pkN (fun x => decide (x = t)) 0 os else [])∧Below w.heap.size w w':=by
 obtain ⟨w0,hw0⟩ : ∃ W,W = w.alloc (.cells (imC g) 26):=⟨_,rfl⟩
 have HW0 : Hid (w0 = _):=hw0
 obtain ⟨hb0,hgb⟩:=GB.made hg hw0
 have HB0 : Hid (Below w.heap.size w w0):=hb0
 have HTh : Hid (Calls Tryz.prog 40 #[.agg (imC g),.int .i64 t] w0 fun e w' => e = .returned (.bool (numB t g.ts.length))∧Below w0.heap.size w0 w'):=isThere_any t hgb.im
 have hen:=hf.enter
 have HF : Hid (TellsN Tryz.prog w f bs cs os):=hf
 obtain ⟨X,hX⟩ : ∃ X,X = (if numB t g.ts.length = true then pkN (fun x => decide (x = t)) 0 os else []):=⟨_,rfl⟩
 have HX : Hid (X = (if numB t g.ts.length = true then pkN (fun x => decide (x = t)) 0 os else [])):=hX
 rw [← hX]
 obtain ⟨c0,c1,c2,c3⟩:=hgb.cells
 unfold imC at HW0 HTh
 clear hw0 hb0 hgb hg hf hX
 unfold imV
 go_enter Tryz.func85,Tryz.ntmps85
 go_wp2_with (rw [← HW0.out])
 refine Calls.mono HTh.out ?_
 rintro e w1 ⟨rfl,hb1⟩
 have HB1 : Hid (Below w.heap.size w w1):=bstep HB0.out hb1
 clear hb1 c0 c1 c2 c3 HTh
 cases hnu : numB t g.ts.length with
 | false =>
  have HX2 : Hid (X = []):=by show _ = _; rw [HX.out,hnu]; rfl
  clear hnu
  go_wp2_with fail
  go_ret
  exact ⟨_,rfl,by rw [HX2.out]; exact OwnI.nil _ _,HB1.out⟩
 | true =>
  have HX2 : Hid (X = pkN (fun x => decide (x = t)) 0 os):=by show _ = _; rw [HX.out,hnu]; rfl
  clear hnu
  go_wp2_with fail
  go_loopw [9,10,16] (fun lv _ z wr => ∃ q : Nat,q ≤ os.length∧z = .int .i64 q∧Hid (OwnI wr w1.heap.size lv (pkN (fun x => decide (x = t)) 0 (os.take q)))∧Hid (Below w1.heap.size w1 wr)) (fun _ _ z _ => os.length - (intOf z).toNat)
  case atStart => exact ⟨0,Nat.zero_le _,rfl,OwnI.nil _ _,Below.refl _ _⟩
  case round =>
   obtain ⟨q,hq,rfl,HO,HB⟩:=hrel
   by_cases hql : q < os.length
   ·have hqi : (q : Int) < (os.length : Int):=by omega
    have HT : Hid (pkN (fun x => decide (x = t)) 0 (os.take (q + 1)) = pkN (fun x => decide (x = t)) 0 (os.take q) ++ (if (fun x => decide (x = t)) os[q] = true then [(q : Int)] else [])):=pkN_take _ _ _ hql
    have hpl:=pkN_len (fun x => decide (x = t)) (os.take q) 0
    rw [List.length_take] at hpl
    have HTl : Hid (Calls Tryz.prog f (bs.push (.int .i64 (q : Int)) ++ cs) wr fun e w' => e = .returned (.int .i64 os[q])∧w' = wr):=HF.out.tells wr (bstep HB1.out HB.out) q hql
    go_wp2_with fail
    refine Calls.mono HTl.out ?_
    rintro e wz ⟨rfl,hz⟩
    subst wz
    clear HTl
    by_cases hw : os[q] = t
    ·have hwb : (os[q] == t) = true:=by simpa using hw
     have HT2 : Hid (pkN (fun x => decide (x = t)) 0 (os.take (q + 1)) = pkN (fun x => decide (x = t)) 0 (os.take q) ++ [(q : Int)]):=by show _ = _; rw [HT.out,if_pos (by simpa using hw)]
     clear HT hw
     generalize os[q] = y at *
     go_wp2_with (at_builtin; go_must (refine wpList_append_int (v:=u9) rfl (.tmp 24) (.tmp 26) rfl w1.heap.size rfl rfl (HO.out.later (made_below _ _ _)) (one_int wr q _ rfl) (by omega) (Nat.le_trans HB.out.size (made_below _ _ _).size) ?_; intro v5 w5 ho5 hg5; have hB5:=(bbox HB.out _).trans (grown_below11 (HO.out.later (made_below _ _ _)) hg5 (Nat.le_refl _) (Nat.le_trans HB.out.size (made_below _ _ _).size))))
     go_roundw
     case rel => exact ⟨q + 1,by omega,by go_num,by rw [HT2.out]; exact ho5,hB5⟩
     case measure => simp [intOf]; omega
    ·have hwb : (os[q] == t) = false:=by simpa using hw
     have HT2 : Hid (pkN (fun x => decide (x = t)) 0 (os.take (q + 1)) = pkN (fun x => decide (x = t)) 0 (os.take q)):=by show _ = _; rw [HT.out,if_neg (by simpa using hw),List.append_nil]
     clear HT hw
     generalize os[q] = y at *
     go_wp2_with fail
     go_roundw
     case rel => exact ⟨q + 1,by omega,by go_num,by rw [HT2.out]; exact HO.out,HB.out⟩
     case measure => simp [intOf]; omega
   ·have hqi : ¬ (q : Int) < (os.length : Int):=by omega
    have HE : Hid (pkN (fun x => decide (x = t)) 0 (os.take q) = pkN (fun x => decide (x = t)) 0 os):=by show _ = _; rw [List.take_of_length_le (by omega)]
    go_wp2_with fail
    go_ret
    exact ⟨_,rfl,by rw [HX2.out,← HE.out]; exact HO.out.mono HB1.out.size,bstep HB1.out HB.out⟩

set_option maxHeartbeats 1000000 in
theorem fieldOwner_any {g : Img} {gb q : Nat} {w : World} (hG : GB w gb g) (hq : q < g.fs.length) :
  Calls Tryz.prog 203 #[.int .i64 q,.pointer (some ⟨gb,0,none⟩)] w fun e w' => e = .returned (.int .i64 g.fs[q].ow)∧w' = w:=by
 obtain ⟨tb,off,hta,h1,h2,hty⟩:=hG.fd (by intro e; rw [e] at hq; simp at hq)
 obtain ⟨d1,hd⟩:=hty w (Below.refl _ _)
 obtain ⟨k0,k1,k2,k3,k4,k5,k6⟩:=(hd q hq).cells_F
 unfold maxLen at h2
 have hqi : (q : Int) < (g.fs.length : Int):=by omega
 clear hta hG hty hd
 generalize g.fs[q] = x at *
 go_enter Tryz.func203,Tryz.ntmps203
 go_wp2_with fail
 go_ret
 exact ⟨rfl,rfl⟩
set_option maxHeartbeats 1000000 in
theorem methodOwner_any {g : Img} {gb q : Nat} {w : World} (hG : GB w gb g) (hq : q < g.ms.length) :
  Calls Tryz.prog 86 #[.int .i64 q,.pointer (some ⟨gb,0,none⟩)] w fun e w' => e = .returned (.int .i64 g.ms[q].ow)∧w' = w:=by
 obtain ⟨tb,off,hta,h1,h2,hty⟩:=hG.md (by intro e; rw [e] at hq; simp at hq)
 obtain ⟨d1,hd⟩:=hty w (Below.refl _ _)
 obtain ⟨k0,k1,_⟩:=(hd q hq).cells_M
 unfold maxLen at h2
 have hqi : (q : Int) < (g.ms.length : Int):=by omega
 clear hta hG hty hd
 generalize g.ms[q] = x at *
 go_enter Tryz.func86,Tryz.ntmps86
 go_wp2_with fail
 go_ret
 exact ⟨rfl,rfl⟩

set_option maxHeartbeats 1000000 in
theorem fields_any {g : Img} {t : Int} {w : World} (hg : Im w g) (hi : imB g = true) :
  Calls Tryz.prog 163 #[imV g,.int .i64 t] w fun e w' => ∃ v,e = .returned v∧OwnI w' w.heap.size v (fldN g t)∧Below w.heap.size w w':=by
 obtain ⟨w0,hw0⟩ : ∃ W,W = w.alloc (.cells (imC g) 26):=⟨_,rfl⟩
 have HW0 : Hid (w0 = _):=hw0
 obtain ⟨hb0,hgb⟩:=GB.made hg hw0
 have HB0 : Hid (Below w.heap.size w w0):=hb0
 have hln:=im_len hi
 have HOw : Hid (Calls Tryz.prog 85 #[.agg (imC g),.int .i64 t,.int .i64 g.fs.length,.func (.func 203) #[] #[.pointer (some ⟨w.heap.size,0,none⟩)]] w0 fun e w' => ∃ v,e = .returned v∧OwnI w' w0.heap.size v (fldN g t)∧Below w0.heap.size w0 w'):=by
  have:=ownedBy_any (t:=t) (os:=g.fs.map (·.ow)) hgb.im (by simp; omega) (f := 203) (bs:=#[]) (cs:=#[.pointer (some ⟨w.heap.size,0,none⟩)]) ⟨run_enter9 Tryz.func203 (by kernel_rfl) rfl,fun W hW i h => by
   simp only [List.length_map] at h
   have:=fieldOwner_any (hgb.later hW) h
   simpa using this⟩
  rw [pkN_map,List.length_map] at this
  exact this
 obtain ⟨c0,c1,c2,c3⟩:=hgb.cells
 unfold imC at HW0 HOw
 clear hw0 hb0 hgb hg hi
 unfold imV
 go_enter Tryz.func163,Tryz.ntmps163
 go_wp2_with (rw [← HW0.out])
 refine Calls.mono HOw.out ?_
 rintro e w1 ⟨v,rfl,hv,hb1⟩
 have HO1 : Hid (OwnI w1 w0.heap.size v (fldN g t)):=hv
 have HB1 : Hid (Below w.heap.size w w1):=bstep HB0.out hb1
 clear hb1 hv c0 c1 c2 c3 HOw
 go_wp2_with fail
 go_ret
 exact ⟨_,rfl,HO1.out.mono HB0.out.size,HB1.out⟩
set_option maxHeartbeats 1000000 in
theorem methods_any {g : Img} {t : Int} {w : World} (hg : Im w g) (hi : imB g = true) :
  Calls Tryz.prog 47 #[imV g,.int .i64 t] w fun e w' => ∃ v,e = .returned v∧OwnI w' w.heap.size v (mtdN g t)∧Below w.heap.size w w':=by
 obtain ⟨w0,hw0⟩ : ∃ W,W = w.alloc (.cells (imC g) 26):=⟨_,rfl⟩
 have HW0 : Hid (w0 = _):=hw0
 obtain ⟨hb0,hgb⟩:=GB.made hg hw0
 have HB0 : Hid (Below w.heap.size w w0):=hb0
 have hln:=im_len hi
 have HOw : Hid (Calls Tryz.prog 85 #[.agg (imC g),.int .i64 t,.int .i64 g.ms.length,.func (.func 86) #[] #[.pointer (some ⟨w.heap.size,0,none⟩)]] w0 fun e w' => ∃ v,e = .returned v∧OwnI w' w0.heap.size v (mtdN g t)∧Below w0.heap.size w0 w'):=by
  have:=ownedBy_any (t:=t) (os:=g.ms.map (·.ow)) hgb.im (by simp; omega) (f := 86) (bs:=#[]) (cs:=#[.pointer (some ⟨w.heap.size,0,none⟩)]) ⟨run_enter9 Tryz.func86 (by kernel_rfl) rfl,fun W hW i h => by
   simp only [List.length_map] at h
   have:=methodOwner_any (hgb.later hW) h
   simpa using this⟩
  rw [pkN_map,List.length_map] at this
  exact this
 obtain ⟨c0,c1,c2,c3⟩:=hgb.cells
 unfold imC at HW0 HOw
 clear hw0 hb0 hgb hg hi
 unfold imV
 go_enter Tryz.func47,Tryz.ntmps47
 go_wp2_with (rw [← HW0.out])
 refine Calls.mono HOw.out ?_
 rintro e w1 ⟨v,rfl,hv,hb1⟩
 have HO1 : Hid (OwnI w1 w0.heap.size v (mtdN g t)):=hv
 have HB1 : Hid (Below w.heap.size w w1):=bstep HB0.out hb1
 clear hb1 hv c0 c1 c2 c3 HOw
 go_wp2_with fail
 go_ret
 exact ⟨_,rfl,HO1.out.mono HB0.out.size,HB1.out⟩
theorem Tryz.sizeSpan : (Tryz.prog.info? 202).map (·.size) = some 2:=by kernel_rfl
theorem range_any9 {f : Nat → Bool} {q : Nat} : (List.range (q + 1)).any f = ((List.range q).any f || f q):=by rw [List.range_succ,List.any_append]; simp

theorem overlaps_none (a : Option Addr) (cap : Nat) (w : World) :
  Calls Tryz.prog 232 #[.slice a 0 cap] w fun e w' => e = .returned (.bool false)∧w' = w:=by
 go_enter Tryz.func232,Tryz.ntmps232
 go_wp2
 refine wp_loop_rounds 1 ?_; rw [rounds_succ]
 go_wp2
 go_ret
 exact ⟨rfl,rfl⟩

set_option maxHeartbeats 1000000 in
theorem overlaps_some {b off cap : Nat} {l : List Sp} {w : World} (hE : Es spE w (.slice (some ⟨b,off,none⟩) l.length cap) l) (hb : b < w.heap.size) (hc : ∀ i (hi : i < l.length),El spE w b (off + i * 2) l[i]) (hl : l.length ≤ maxLen) (hcap : l.length ≤ cap) (hm : cap ≤ maxLen) :
  Calls Tryz.prog 232 #[.slice (some ⟨b,off,none⟩) l.length cap] w fun e w' => e = .returned (.bool (ovlB l))∧Below w.heap.size w w':=by
 unfold maxLen at hl hm
 have HC : Hid (∀ i (hi : i < l.length),El spE w b (off + i * 2) l[i]):=hc
 have HE : Hid (Es spE w (.slice (some ⟨b,off,none⟩) l.length cap) l):=hE
 clear hc hE
 go_enter Tryz.func232,Tryz.ntmps232
 go_wp2_with fail
 go_loopw [7] (fun z wr => ∃ q : Nat,q ≤ l.length∧z = .int .i64 q∧Below w.heap.size w wr∧(List.range q).any (ovlAt l) = false) (fun z _ => l.length - (intOf z).toNat)
 case atStart => exact ⟨0,Nat.zero_le _,rfl,Below.refl _ _,by simp⟩
 case round =>
  obtain ⟨q,hq,rfl,hB,hany⟩:=hrel
  have HAn : Hid ((List.range q).any (ovlAt l) = false):=hany
  have HBL : Hid (Below w.heap.size w wr):=hB
  clear hany
  by_cases hql : q < l.length
  ·obtain ⟨c0,c1⟩:=((HC.out q hql).below hB hb).two
   have HOv : Hid (ovlAt l q = (l.take q).any (shrB l[q])):=by show _ = _; unfold ovlAt; rw [List.getD_eq_getElem?_getD,List.getElem?_eq_getElem hql]; rfl
   obtain ⟨hsl,hEs⟩:=slice_toE (P:=Tryz.prog) (HE.out.later hB) q (by omega) 187 202 Tryz.underlying187 Tryz.sizeSpan
   have HEs : Hid (Es spE wr (.slice (some ⟨b,off,none⟩) q cap) (l.take q)):=hEs
   generalize l[q] = x at *
   obtain ⟨w0,hw0⟩ : ∃ W,W = wr.alloc (.cells #[.int .i64 x.1,.int .i64 x.2] 202):=⟨_,rfl⟩
   have HW0 : Hid (w0 = _):=hw0
   have hb0 : Below wr.heap.size wr w0:=by rw [hw0]; exact made_below _ _ _
   have HB0 : Hid (Below wr.heap.size wr w0):=hb0
   have hA : At w0 wr.heap.size #[.int .i64 x.1,.int .i64 x.2] 202:=by rw [hw0]; exact At.made wr _ _
   have HK : Hid (∀ w',Below w0.heap.size w0 w' → w'.cell? ⟨wr.heap.size,0,none⟩ = some (.int .i64 x.1)∧w'.cell? ⟨wr.heap.size,1,none⟩ = some (.int .i64 x.2)):=fun w' h => (hA.later h).box2
   obtain ⟨d0,d1⟩:=hA.box2
   have HCo : Hid (∀ W,Below w0.heap.size w0 W → Calls Tryz.prog 249 #[.slice (some ⟨b,off,none⟩) q cap,.func (.func 254) #[.agg #[.int .i64 x.1,.int .i64 x.2]] #[]] W fun e w' => e = .returned (.bool ((l.take q).any (shrB x)))∧Below W.heap.size W w'):=fun W hW => containsS_any ((HEs.out.later hb0).later hW) (tells_shares x W _)
   clear hB hw0 hb0 hA hEs
   go_wp2_with (rw [← HW0.out])
   go_region_held3 (fun w' => w'.cell? ⟨wr.heap.size,0,none⟩ = some (.int .i64 x.1)∧w'.cell? ⟨wr.heap.size,1,none⟩ = some (.int .i64 x.2))
    (first | (exact HK.out _ (bdrew _)) | (exact HK.out _ (bstep (bdrew _) hb1)))
    (first | (go_at_call 249; refine (HCo.out _ (bdrew _)).mono ?_; rintro e w1 ⟨rfl,hb1⟩))
   rename_i hheld
   clear hheld
   have hB1 : Below w.heap.size w w1:=bstep (bstep HBL.out HB0.out) (bstep (bdrew _) hb1)
   clear hb1 d0 d1
   cases hy : (l.take q).any (shrB x) with
   | false =>
    have H1 : Hid ((List.range (q + 1)).any (ovlAt l) = false):=by show _ = _; rw [range_any9,HAn.out,HOv.out,hy]; rfl
    go_wp2_with fail
    go_roundw
    case rel => exact ⟨q + 1,by omega,by go_num,hB1,H1.out⟩
    case measure => simp [intOf]; omega
   | true =>
    have H1 : Hid (ovlB l = true):=by
     show _ = _
     exact List.any_eq_true.2 ⟨q,List.mem_range.2 hql,by rw [HOv.out,hy]⟩
    go_wp2_with fail
    go_ret
    exact ⟨ret_bool H1.out.symm,hB1⟩
  ·have HF' : Hid (ovlB l = false):=by
    show _ = _
    have:=HAn.out
    rwa [show q = l.length by omega] at this
   go_wp2
   go_ret
   exact ⟨ret_bool HF'.out.symm,HBL.out⟩

theorem overlaps_any {v : Value} {l : List Sp} {w : World} (h : Es spE w v l) :
  Calls Tryz.prog 232 #[v] w fun e w' => e = .returned (.bool (ovlB l))∧Below w.heap.size w w':=by
 by_cases hne : l = []
 ·subst hne
  obtain ⟨a,c,rfl,_,_⟩:=h.shape
  refine (overlaps_none a c w).mono ?_
  rintro e w' ⟨rfl,rfl⟩
  exact ⟨rfl,Below.refl _ _⟩
 ·have hl:=h.len
  obtain ⟨b,off,cap,rfl,h1,h2,hb,hc⟩:=h.parts hne
  exact overlaps_some h hb hc hl h1 h2

theorem eq_sp (W : World) (a b : Sp) : (binOp .eql 202 (.agg #[.int .i64 a.1,.int .i64 a.2]) (.agg #[.int .i64 b.1,.int .i64 b.2])).run Tryz.prog W = .ok (.bool (decide (a = b))) W:=by
 obtain ⟨a1,a2⟩:=a
 obtain ⟨b1,b2⟩:=b
 have : decide ((a1,a2) = (b1,b2)) = (a1 == b1 && a2 == b2):=by rw [Bool.eq_iff_iff]; simp
 rw [this]
 simp [go_sem]
 cases h1 : (a1 == b1) <;> cases h2 : (a2 == b2) <;> simp_all [go_sem]
theorem ne_sp (W : World) (a b : Sp) : (binOp .neq 202 (.agg #[.int .i64 a.1,.int .i64 a.2]) (.agg #[.int .i64 b.1,.int .i64 b.2])).run Tryz.prog W = .ok (.bool (!decide (a = b))) W:=by
 obtain ⟨a1,a2⟩:=a
 obtain ⟨b1,b2⟩:=b
 have : decide ((a1,a2) = (b1,b2)) = (a1 == b1 && a2 == b2):=by rw [Bool.eq_iff_iff]; simp
 rw [this]
 simp [go_sem]
 cases h1 : (a1 == b1) <;> cases h2 : (a2 == b2) <;> simp_all [go_sem]

set_option maxHeartbeats 1000000 in
theorem fits11_any {x o : Sp} {g : Nat} {w : World} (hg : At w g #[.int .i64 o.1,.int .i64 o.2] 202) :
  Calls Tryz.prog 252 #[spV9 x,.pointer (some ⟨g,0,none⟩)] w fun e w' => e = .returned (.bool (partB x o && !decide (x = o)))∧Below w.heap.size w w':=by
 obtain ⟨w0,hw0⟩ : ∃ W,W = w.alloc (.cells #[.int .i64 x.1,.int .i64 x.2] 202):=⟨_,rfl⟩
 have HW0 : Hid (w0 = _):=hw0
 have hb0 : Below w.heap.size w w0:=by rw [hw0]; exact made_below _ _ _
 have HB0 : Hid (Below w.heap.size w w0):=hb0
 have hA : At w0 w.heap.size #[.int .i64 x.1,.int .i64 x.2] 202:=by rw [hw0]; exact At.made w _ _
 have HK : Hid (∀ w',Below w0.heap.size w0 w' → (w'.cell? ⟨w.heap.size,0,none⟩ = some (.int .i64 x.1)∧w'.cell? ⟨w.heap.size,1,none⟩ = some (.int .i64 x.2))∧(w'.cell? ⟨g,0,none⟩ = some (.int .i64 o.1)∧w'.cell? ⟨g,1,none⟩ = some (.int .i64 o.2))):=fun w' h => ⟨(hA.later h).box2,((hg.later hb0).later h).box2⟩
 obtain ⟨⟨c0,c1⟩,c2,c3⟩:=HK.out w0 (Below.refl _ _)
 have hne:=fun W => ne_sp W x o
 have HPa : Hid (∀ W,Calls Tryz.prog 253 #[.agg #[.int .i64 x.1,.int .i64 x.2],.agg #[.int .i64 o.1,.int .i64 o.2]] W fun e w' => e = .returned (.bool (partB x o))∧Below W.heap.size W w'):=fun W => isPartOf_any x o W
 clear hg hw0 hb0 hA
 unfold spV9
 go_enter Tryz.func252,Tryz.ntmps252
 go_wp2_with (first | (rw [← HW0.out]) | fail)
 refine (HPa.out _).mono ?_
 rintro e w1 ⟨rfl,hb1⟩
 obtain ⟨⟨e0,e1⟩,e2,e3⟩:=HK.out w1 hb1
 have HB1 : Hid (Below w.heap.size w w1):=bstep HB0.out hb1
 clear hb1 c0 c1 c2 c3
 cases hp : partB x o with
 | false =>
  go_wp2
  go_ret
  exact ⟨ret_bool (by rw [hp]; rfl),HB1.out⟩
 | true =>
  go_wp2
  go_ret
  exact ⟨ret_bool (by rw [hp]; rfl),HB1.out⟩

set_option maxHeartbeats 1000000 in
theorem fits1_any {o : Sp} {g : Nat} {va : Value} {la : List Sp} {w : World} (hg : w.cell? ⟨g,0,none⟩ = some va) (hlt : g < w.heap.size) (ha : Es spE w va la) :
  Calls Tryz.prog 250 #[spV9 o,.pointer (some ⟨g,0,none⟩)] w fun e w' => e = .returned (.bool (inB9 la o))∧Below w.heap.size w w':=by
 obtain ⟨w0,hw0⟩ : ∃ W,W = w.alloc (.cells #[.int .i64 o.1,.int .i64 o.2] 202):=⟨_,rfl⟩
 have HW0 : Hid (w0 = _):=hw0
 have hb0 : Below w.heap.size w w0:=by rw [hw0]; exact made_below _ _ _
 have HB0 : Hid (Below w.heap.size w w0):=hb0
 have hA : At w0 w.heap.size #[.int .i64 o.1,.int .i64 o.2] 202:=by rw [hw0]; exact At.made w _ _
 have hg0 : w0.cell? ⟨g,0,none⟩ = some va:=by rw [← hg]; exact hb0.cell (p:=⟨g,0,none⟩) hlt
 have HAl : Hid (Calls Tryz.prog 251 #[va,.func (.func 252) #[] #[.pointer (some ⟨w.heap.size,0,none⟩)]] w0 fun e w' => e = .returned (.bool (inB9 la o))∧Below w0.heap.size w0 w'):=by
  refine allS_any (p:=fun s => partB s o && !decide (s = o)) (ha.later hb0) ⟨run_enter9 Tryz.func252 (by kernel_rfl) rfl,fun W hW x hx => ?_⟩
  simpa using fits11_any (x:=x) (hA.later hW)
 obtain ⟨aa,ca,hva,_,_⟩:=ha.shape
 clear ha hg hw0 hb0 hA
 subst hva
 unfold spV9
 go_enter Tryz.func250,Tryz.ntmps250
 go_wp2_with (rw [← HW0.out])
 refine Calls.mono HAl.out ?_
 rintro e w1 ⟨rfl,hb1⟩
 have HB1 : Hid (Below w.heap.size w w1):=bstep HB0.out hb1
 clear hb1
 go_wp2
 go_ret
 exact ⟨rfl,HB1.out⟩

set_option maxHeartbeats 2000000 in
theorem fits9_any {va vb : Value} {la lb : List Sp} {w : World} (ha : Es spE w va la) (hb : Es spE w vb lb) (na : la ≠ []) (nb : lb ≠ []) :
  Calls Tryz.prog 230 #[va,vb] w fun e w' => e = .returned (.bool (fitB9 la lb))∧Below w.heap.size w w':=by
 have hla:=ha.len
 have hlb:=hb.len
 unfold maxLen at hla hlb
 have pa : 0 < la.length:=List.length_pos_iff.2 na
 have pb : 0 < lb.length:=List.length_pos_iff.2 nb
 obtain ⟨ba,oa,ca,rfl,ha1,ha2,hba,hca⟩:=ha.parts na
 obtain ⟨bb,ob,cb,rfl,hb1,hb2,hbb,hcb⟩:=hb.parts nb
 unfold maxLen at ha2 hb2
 obtain ⟨w0,hw0⟩ : ∃ W,W = w.alloc (.cells #[.slice (some ⟨ba,oa,none⟩) la.length ca] 187):=⟨_,rfl⟩
 have HW0 : Hid (w0 = _):=hw0
 have hb0 : Below w.heap.size w w0:=by rw [hw0]; exact made_below _ _ _
 have HB0 : Hid (Below w.heap.size w w0):=hb0
 have hA : At w0 w.heap.size #[.slice (some ⟨ba,oa,none⟩) la.length ca] 187:=by rw [hw0]; exact At.made w _ _
 have HEa : Hid (Es spE w0 (.slice (some ⟨ba,oa,none⟩) la.length ca) la):=ha.later hb0
 have HEb : Hid (Es spE w0 (.slice (some ⟨bb,ob,none⟩) lb.length cb) lb):=hb.later hb0
 have HAt : Hid (At w0 w.heap.size #[.slice (some ⟨ba,oa,none⟩) la.length ca] 187):=hA
 have HM : Hid (Calls Tryz.prog 248 #[.slice (some ⟨ba,oa,none⟩) la.length ca,.slice (some ⟨bb,ob,none⟩) lb.length cb] w0 fun e w' => e = .returned (.bool (meetB la lb))∧Below w0.heap.size w0 w'):=meet_any HEa.out HEb.out
 have HFa : Hid (la.headD (0,0) = la[0]):=by cases la with | nil => exact absurd rfl na | cons x r => rfl
 have HFb : Hid (lb.headD (0,0) = lb[0]):=by cases lb with | nil => exact absurd rfl nb | cons x r => rfl
 have HTa : Hid (la.drop 1 = la.tail):=by cases la <;> rfl
 have HTb : Hid (lb.drop 1 = lb.tail):=by cases lb <;> rfl
 have HCa : Hid (∀ w',Below w0.heap.size w0 w' → Two9 w' ba oa la[0]):=fun w' h => by
  have:=((hca 0 pa).below (bstep hb0 h) hba).two
  simpa using this
 have HCb : Hid (∀ w',Below w0.heap.size w0 w' → Two9 w' bb ob lb[0]):=fun w' h => by
  have:=((hcb 0 pb).below (bstep hb0 h) hbb).two
  simpa using this
 have k0:=hA.cell0
 clear ha hb hca hcb hw0 hb0 hA hba hbb
 go_enter Tryz.func230,Tryz.ntmps230
 go_wp2_with (rw [← HW0.out])
 refine Calls.mono HM.out ?_
 rintro e w1 ⟨rfl,hb1'⟩
 have HB1 : Hid (Below w0.heap.size w0 w1):=hb1'
 have k1 : w1.cell? ⟨w.heap.size,0,none⟩ = some (.slice (some ⟨ba,oa,none⟩) la.length ca):=(HAt.out.later hb1').cell0
 clear hb1' k0 HM
 cases hm : meetB la lb with
 | false =>
  go_wp2_with fail
  go_ret
  exact ⟨ret_bool (by unfold fitB9; rw [if_neg (by rw [hm]; decide)]),bstep HB0.out HB1.out⟩
 | true =>
  have HR : Hid (fitB9 la lb = if la[0] = lb[0] then !meetB la.tail lb.tail else lb.any (inB9 la)):=by show _ = _; unfold fitB9; rw [if_pos hm,HFa.out,HFb.out]
  obtain ⟨c0,c1⟩:=HCa.out w1 HB1.out
  obtain ⟨d0,d1⟩:=HCb.out w1 HB1.out
  have heq0:=fun W => eq_sp W la[0] lb[0]
  generalize la[0] = x at *
  generalize lb[0] = y at *
  by_cases hxy : x = y
  ·have heq : ∀ W : World,(binOp .eql 202 (.agg #[.int .i64 x.1,.int .i64 x.2]) (.agg #[.int .i64 y.1,.int .i64 y.2])).run Tryz.prog W = .ok (.bool true) W:=fun W => by rw [heq0,decide_eq_true hxy]
   have HR2 : Hid (fitB9 la lb = !meetB la.tail lb.tail):=by show _ = _; rw [HR.out,if_pos hxy]
   obtain ⟨a',ca',hsa,hEa,_,_⟩:=slice_fromE (P:=Tryz.prog) HEa.out 1 (by omega) 187 202 Tryz.underlying187 Tryz.sizeSpan
   obtain ⟨b',cb',hsb,hEb,_,_⟩:=slice_fromE (P:=Tryz.prog) HEb.out 1 (by omega) 187 202 Tryz.underlying187 Tryz.sizeSpan
   replace hsa : ∀ (W : World) (k : IntKind),(Instr.slice 187 (.slice (some ⟨ba,oa,none⟩) la.length ca) (some (.int k 1)) none none).run Tryz.prog W = .ok (.slice a' (la.length - 1) ca') W:=hsa
   replace hsb : ∀ (W : World) (k : IntKind),(Instr.slice 187 (.slice (some ⟨bb,ob,none⟩) lb.length cb) (some (.int k 1)) none none).run Tryz.prog W = .ok (.slice b' (lb.length - 1) cb') W:=hsb
   have HMt : Hid (∀ W,Below w0.heap.size w0 W → Calls Tryz.prog 248 #[.slice a' (la.length - 1) ca',.slice b' (lb.length - 1) cb'] W fun e w' => e = .returned (.bool (meetB la.tail lb.tail))∧Below W.heap.size W w'):=fun W hW => by
    rw [← HTa.out,← HTb.out]
    exact meet_any (hEa.later hW) (hEb.later hW)
   have HKk : Hid (∀ W,Below w0.heap.size w0 W → W.cell? ⟨w.heap.size,0,none⟩ = some (.slice (some ⟨ba,oa,none⟩) la.length ca)):=fun W hW => (HAt.out.later hW).cell0
   clear heq0 hxy hEa hEb
   go_wp2_with fail
   go_quiet (fail)
   go_wp2_with fail
   clear heq c0 c1 d0 d1 k1
   have hBq : Below w0.heap.size w0 (w1.drewN nq):=bstep HB1.out (Below.drewN (Below.refl _ _) _)
   generalize w1.drewN nq = wq at *
   have HBq : Hid (Below w0.heap.size w0 wq):=hBq
   have kq:=HKk.out wq hBq
   clear hBq
   go_region_held3 (fun w' => w'.cell? ⟨w.heap.size,0,none⟩ = some (.slice (some ⟨ba,oa,none⟩) la.length ca))
    (first | (exact HKk.out _ (bstep HBq.out (bdrew _))) | (exact HKk.out _ (bstep HBq.out (bstep (bdrew _) hb2))))
    (first | (go_at_call 248; refine (HMt.out _ (bstep HBq.out (bdrew _))).mono ?_; rintro e w2 ⟨rfl,hb2⟩))
   rename_i hheld
   clear hheld
   have HB2 : Hid (Below w.heap.size w w2):=bstep (bstep HB0.out HBq.out) (bstep (bdrew _) hb2)
   clear hb2
   go_wp2_with fail
   go_ret
   exact ⟨ret_bool HR2.out.symm,HB2.out⟩
  ·have heq : ∀ W : World,(binOp .eql 202 (.agg #[.int .i64 x.1,.int .i64 x.2]) (.agg #[.int .i64 y.1,.int .i64 y.2])).run Tryz.prog W = .ok (.bool false) W:=fun W => by rw [heq0,decide_eq_false hxy]
   have HR2 : Hid (fitB9 la lb = lb.any (inB9 la)):=by show _ = _; rw [HR.out,if_neg hxy]
   have HCo : Hid (∀ W,Below w0.heap.size w0 W → Calls Tryz.prog 249 #[.slice (some ⟨bb,ob,none⟩) lb.length cb,.func (.func 250) #[] #[.pointer (some ⟨w.heap.size,0,none⟩)]] W fun e w' => e = .returned (.bool (lb.any (inB9 la)))∧Below W.heap.size W w'):=fun W hW => by
    refine containsS_any (HEb.out.later hW) ⟨run_enter9 Tryz.func250 (by kernel_rfl) rfl,fun W2 hW2 z hz => ?_⟩
    have hA1:=HAt.out.later (bstep hW hW2)
    have:=fits1_any (o:=z) (w:=W2) hA1.cell0 hA1.lt (HEa.out.later (bstep hW hW2))
    simpa using this
   clear heq0 hxy
   go_wp2_with fail
   go_quiet (fail)
   go_wp2_with fail
   have HBq : Hid (Below w0.heap.size w0 (w1.drewN nq)):=bstep HB1.out (Below.drewN (Below.refl _ _) _)
   refine (HCo.out _ HBq.out).mono ?_
   rintro e w2 ⟨rfl,hb2⟩
   have HB2 : Hid (Below w.heap.size w w2):=bstep (bstep HB0.out HBq.out) hb2
   clear hb2
   go_wp2_with fail
   go_ret
   exact ⟨ret_bool HR2.out.symm,HB2.out⟩
end Go.Proofs.YthpmpdpfnlecmaaGreat
