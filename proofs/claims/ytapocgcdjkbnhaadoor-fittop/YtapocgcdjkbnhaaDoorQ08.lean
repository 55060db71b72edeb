/- Texts joined: Up11, RefUp11, Sort11. -/
import Derived.Test.YtapocgcdjkbnhaaDoorQ07
import Derived.Deep.RegionHeld3
import Derived.Shelf.Sort.Plain
import Derived.Shelf.Slices.In.SortNone
import Derived.Test.YtapocgcdjkbnhaaDoorRows
namespace Go.Proofs.YtapocgcdjkbnhaaDoor
set_option linter.unusedVariables false
set_option linter.unusedSimpArgs false
open Go.RowKit
attribute [local go_sem ↓] Go.wp_at_zero Go.wp_at_succ
theorem im_len {g : Img} (h : imB g = true) : g.ts.length ≤ 32∧g.fs.length ≤ 64∧g.ms.length ≤ 64:=by
 unfold imB at h
 simp only [Bool.and_eq_true,decide_eq_true_iff] at h
 exact ⟨h.1.1.1.1.1.1,h.1.1.1.1.1.2,h.1.1.1.1.2⟩
theorem im_type {g : Img} (h : imB g = true) {q : Nat} (hq : q < g.ts.length) : (g.ts[q].ex = -1 ∨ numB g.ts[q].ex g.ts.length = true)∧g.ts[q].fs.length ≤ 4∧∀ x ∈ g.ts[q].fs,numB x g.ts.length = true:=by
 unfold imB at h
 simp only [Bool.and_eq_true] at h
 have:=List.all_eq_true.1 h.1.1.1.2 _ (List.getElem_mem hq)
 unfold tdB at this
 simp only [Bool.and_eq_true,Bool.or_eq_true,decide_eq_true_iff,List.all_eq_true] at this
 exact ⟨this.1.1.2,this.1.2,this.2⟩
theorem wf_of {t : Int} (h : -1000 ≤ t∧t ≤ 1000) : Wf t:=by unfold Wf; exact WalkArith.wf_i64 (by omega)
theorem wf_num {t : Int} {n : Nat} (hn : n ≤ 1000) (h : numB t n = true) : Wf t:=wf_of (by rw [numB_iff] at h; omega)
theorem OwnI.mono {w : World} {base base' : Nat} {v : Value} {l : List Int} (h : OwnI w base v l) (hb : base' ≤ base) : OwnI w base' v l:=by
 obtain ⟨h1,h2⟩:=h
 refine ⟨h1, ?_⟩
 rcases h2 with h2 | ⟨g,cap,cur,rfl,hg,r⟩
 ·exact Or.inl h2
 ·exact Or.inr ⟨g,cap,cur,rfl,Nat.le_trans hb hg,r⟩
theorem OwnI.one (w : World) (t : Int) : OwnI (w.alloc (.cells #[.int .i64 t] 3)) w.heap.size (.slice (some ⟨w.heap.size,0,none⟩) 1 1) [t] :=
 OwnV.lit w w.heap.size 3 (i64s [t]) _ 1 (Nat.le_refl _) rfl rfl (by simp [i64s,maxLen])
theorem Is.cell1 {W : World} {k : Nat} {t : Int} (h : At W k #[.int .i64 t] 3) : Is W (.slice (some ⟨k,0,none⟩) 1 1) [t] :=
 ⟨_,1,rfl,Nat.le_refl _,by simp [maxLen],fun _ => ⟨k,0,rfl,h.lt,fun i hi => by
  have : i = 0:=by simp [i64s] at hi; exact hi
  subst this
  rw [h.cell]; rfl⟩⟩

set_option maxHeartbeats 1000000 in
theorem byExtends1_any {g : Img} {gb q : Nat} {w : World} (hG : GB w gb g) (hq : q < g.ts.length) :
  Calls Tryd.prog 53 #[.int .i64 q,.pointer (some ⟨gb,0,none⟩)] w fun e w' => e = .returned (.slice (some ⟨w.heap.size,0,none⟩) 1 1)∧w' = w.alloc (.cells #[.int .i64 g.ts[q].ex] 3):=by
 obtain ⟨tb,off,hta,htb,h1,h2,k0,k1,k2,k3⟩:=hG.type hq
 obtain ⟨c0,c1,c2,c3⟩:=hG.cells
 unfold maxLen at h2
 rw [hta] at c0
 clear hta hG
 generalize g.ts[q].ex = x at *
 go_enter Tryd.func53,Tryd.ntmps53
 go_wp2_with fail
 go_ret
 exact ⟨rfl,rfl⟩
set_option maxHeartbeats 1000000 in
theorem byFaces1_any {g : Img} {gb q : Nat} {w : World} (hG : GB w gb g) (hq : q < g.ts.length) :
  Calls Tryd.prog 54 #[.int .i64 q,.pointer (some ⟨gb,0,none⟩)] w fun e w' => e = .returned (.slice g.ts[q].fa g.ts[q].fs.length g.ts[q].fc)∧w' = w:=by
 obtain ⟨tb,off,hta,htb,h1,h2,k0,k1,k2,k3⟩:=hG.type hq
 obtain ⟨c0,c1,c2,c3⟩:=hG.cells
 unfold maxLen at h2
 rw [hta] at c0
 clear hta hG
 go_enter Tryd.func54,Tryd.ntmps54
 go_wp2_with fail
 go_ret
 exact ⟨rfl,rfl⟩
theorem steps_up {g : Img} {gb : Nat} {w : World} (hG : GB w gb g) (hi : imB g = true) : Steps Tryd.prog w 53 #[] #[.pointer (some ⟨gb,0,none⟩)] g.ts.length (upS g):=by
 refine ⟨run_enter9 Tryd.func53 (by kernel_rfl) rfl,fun W hW t ht => ?_,fun t ht x hx => ?_⟩
 ·obtain ⟨q,rfl,hq⟩:=num_nat ht
  have:=byExtends1_any (hG.later hW) hq
  refine (show Calls Tryd.prog 53 _ W _ by simpa using this).mono ?_
  rintro e w' ⟨rfl,rfl⟩
  refine ⟨_,rfl, ?_,made_below _ _ _,fun _ k hk => Or.inr (by simp [Value.ownBlock] at hk; omega)⟩
  unfold upS
  rw [exI_at hq]
  exact (OwnI.one W _).is
 ·obtain ⟨q,rfl,hq⟩:=num_nat ht
  unfold upS at hx
  rw [exI_at hq] at hx
  simp at hx; subst hx
  have hl:=(im_len hi).1
  rcases (im_type hi hq).1 with h | h
  ·rw [h]; exact wf_of (by omega)
  ·exact wf_num (by omega) h
theorem steps_fac {g : Img} {gb : Nat} {w : World} (hG : GB w gb g) (hi : imB g = true) : Steps Tryd.prog w 54 #[] #[.pointer (some ⟨gb,0,none⟩)] g.ts.length (fsI g):=by
 refine ⟨run_enter9 Tryd.func54 (by kernel_rfl) rfl,fun W hW t ht => ?_,fun t ht x hx => ?_⟩
 ·obtain ⟨q,rfl,hq⟩:=num_nat ht
  have:=byFaces1_any (hG.later hW) hq
  have hi0 : Is w (.slice g.ts[q].fa g.ts[q].fs.length g.ts[q].fc) g.ts[q].fs:=(hG.im.tok _ (List.getElem_mem hq)).toIs
  refine (show Calls Tryd.prog 54 _ W _ by simpa using this).mono ?_
  rintro e w' ⟨rfl,rfl⟩
  rw [fsI_at hq]
  exact ⟨_,rfl,Sl.later hi0 hW,Below.refl _ _,fun hne k hk => Or.inl (hi0.lt hne k hk)⟩
 ·obtain ⟨q,rfl,hq⟩:=num_nat ht
  rw [fsI_at hq] at hx
  exact wf_num (by have:=(im_len hi).1; omega) ((im_type hi hq).2.2 x hx)

theorem byExtends_any {g : Img} (w : World) :
  Calls Tryd.prog 44 #[imV g] w fun e w' => e = .returned (.func (.func 53) #[] #[.pointer (some ⟨w.heap.size,0,none⟩)])∧w' = w.alloc (.cells (imC g) 26):=by
 unfold imV imC
 go_enter Tryd.func44,Tryd.ntmps44
 go_wp2_with fail
 go_ret
 exact ⟨rfl,rfl⟩
theorem byFaces_any {g : Img} (w : World) :
  Calls Tryd.prog 45 #[imV g] w fun e w' => e = .returned (.func (.func 54) #[] #[.pointer (some ⟨w.heap.size,0,none⟩)])∧w' = w.alloc (.cells (imC g) 26):=by
 unfold imV imC
 go_enter Tryd.func45,Tryd.ntmps45
 go_wp2_with fail
 go_ret
 exact ⟨rfl,rfl⟩

theorem At.at {W : World} {k k' : Nat} {C : Array Value} {t : TypeId} (h : At W k C t) (e : k' = k) : At W k' C t:=by rw [e]; exact h

set_option maxHeartbeats 4000000 in
theorem up_any {g : Img} {t : Int} {w : World} (hg : Im w g) (hi : imB g = true) (hw : Wf t) :
  Calls Tryd.prog 28 #[imV g,.int .i64 t] w fun e w' => ∃ v,e = .returned v∧OwnI w' w.heap.size v (upL g t)∧Below w.heap.size w w':=by
 obtain ⟨w0,hw0⟩ : ∃ W,W = w.alloc (.cells (imC g) 26):=⟨_,rfl⟩
 have HW0 : Hid (w0 = _):=hw0
 obtain ⟨hb0,hgb⟩:=GB.made hg hw0
 have HB0 : Hid (Below w.heap.size w w0):=hb0
 have HG : Hid (∀ W,Below w0.heap.size w0 W → GB W w.heap.size g):=fun W hW => hgb.later hW
 have HK : Hid (∀ W,Below w0.heap.size w0 W → W.cell? ⟨w.heap.size,0,none⟩ = some (.slice g.ta g.ts.length g.tc)∧W.cell? ⟨w.heap.size,1,none⟩ = some (.slice g.fa g.fs.length g.fc)∧W.cell? ⟨w.heap.size,2,none⟩ = some (.slice g.ma g.ms.length g.mc)∧W.cell? ⟨w.heap.size,3,none⟩ = some (.int .i64 g.en)):=fun W hW => (hgb.later hW).cells
 have HGO : Hid (∀ W kb ks,Below w0.heap.size w0 W → At W kb (imC g) 26 → At W ks #[.int .i64 t] 3 → Calls Tryd.prog 43 #[.agg (imC g),.slice (some ⟨ks,0,none⟩) 1 1,.func (.func 53) #[] #[.pointer (some ⟨kb,0,none⟩)]] W fun e w' => ∃ v,e = .returned v∧OwnI w' w.heap.size v (upL g t)∧Below w0.heap.size w0 w'):=by
  intro W kb ks hbW hkb hks
  have hbw:=bstep hb0 hbW
  have hGB : GB W kb g:=⟨hkb,hg.later hbw⟩
  refine (goOn_any hGB.im (by have:=(im_len hi).1; omega) (Is.cell1 hks) (fun _ k hk => by simp [Value.ownBlock] at hk; have:=hks.lt; omega) (fun x hx => by simp at hx; subst hx; exact hw) (steps_up hGB hi)).mono ?_
  rintro e w' ⟨v,rfl,ho,hb⟩
  rw [upL_eq] at ho
  exact ⟨v,rfl,ho.mono hbw.size,bstep hbW hb⟩
 have HBE : Hid (∀ W,Calls Tryd.prog 44 #[.agg (imC g)] W fun e w' => e = .returned (.func (.func 53) #[] #[.pointer (some ⟨W.heap.size,0,none⟩)])∧w' = W.alloc (.cells (imC g) 26)):=fun W => byExtends_any W
 obtain ⟨c0,c1,c2,c3⟩:=hgb.cells
 unfold imC at HW0
 clear hw0 hb0 hgb hg
 unfold imV
 go_enter Tryd.func28,Tryd.ntmps28
 go_wp2_with (rw [← HW0.out])
 go_region_held3 (fun W => W.cell? ⟨w.heap.size,0,none⟩ = some (.slice g.ta g.ts.length g.tc)∧W.cell? ⟨w.heap.size,1,none⟩ = some (.slice g.fa g.fs.length g.fc)∧W.cell? ⟨w.heap.size,2,none⟩ = some (.slice g.ma g.ms.length g.mc)∧W.cell? ⟨w.heap.size,3,none⟩ = some (.int .i64 g.en))
  (first | (exact HK.out _ hb2) | (exact HK.out _ (bdrew _)) | (exact HK.out _ (bbox (bdrew _) _)) | (exact HK.out _ (bbox (bbox (bdrew _) _) _)))
  (first | (go_at_call 44; refine (HBE.out _).mono ?_; rintro e w1 ⟨rfl,hz1⟩; subst hz1) | (go_at_call 43; refine (HGO.out _ _ _ (bbox (bbox (bdrew _) _) _) (by first | exact At.at (At.made _ _ _) (by simp) | exact At.at ((At.made _ _ _).next _) (by simp)) (by first | exact At.at (At.made _ _ _) (by simp) | exact At.at ((At.made _ _ _).next _) (by simp))).mono ?_; rintro e w2 ⟨v,rfl,ho2,hb2⟩))
 all_goals rename_i hheld
 all_goals clear hheld
 all_goals go_wp2_with fail
 all_goals go_ret
 all_goals exact ⟨_,rfl,ho2,bstep HB0.out hb2⟩
theorem GB.ty {w0 : World} {b : Nat} {g : Img} (h : GB w0 b g) (hne : g.ts ≠ []) : ∃ tb off,g.ta = some ⟨tb,off,none⟩∧g.ts.length ≤ g.tc∧g.tc ≤ maxLen∧∀ W,Below w0.heap.size w0 W → W.cell? ⟨b,0,none⟩ = some (.slice (some ⟨tb,off,none⟩) g.ts.length g.tc) ∧
  ∀ q (hq : q < g.ts.length),W.cell? ⟨tb,off + q * 4,none⟩ = some (.string g.ts[q].nm)∧W.cell? ⟨tb,off + q * 4 + 1,none⟩ = some (.int .i64 g.ts[q].fl)∧W.cell? ⟨tb,off + q * 4 + 2,none⟩ = some (.int .i64 g.ts[q].ex)∧W.cell? ⟨tb,off + q * 4 + 3,none⟩ = some (.slice g.ts[q].fa g.ts[q].fs.length g.ts[q].fc):=by
 obtain ⟨tb,off,cap,hv,h1,h2,hb,hc⟩:=h.im.ts.parts hne
 simp only [Value.slice.injEq] at hv
 obtain ⟨ha,_,hcap⟩:=hv
 subst hcap
 refine ⟨tb,off,ha,h1,h2,fun W hW => ⟨?_,fun q hq => (show El tdE W tb (off + q * 4) g.ts[q] from (hc q hq).below hW hb).cells_T⟩⟩
 have:=(h.later hW).cells.1
 rw [ha] at this; exact this
theorem GB.fd {w0 : World} {b : Nat} {g : Img} (h : GB w0 b g) (hne : g.fs ≠ []) : ∃ tb off,g.fa = some ⟨tb,off,none⟩∧g.fs.length ≤ g.fc∧g.fc ≤ maxLen∧∀ W,Below w0.heap.size w0 W → W.cell? ⟨b,1,none⟩ = some (.slice (some ⟨tb,off,none⟩) g.fs.length g.fc)∧∀ q (hq : q < g.fs.length),El fdE W tb (off + q * 7) g.fs[q]:=by
 obtain ⟨tb,off,cap,hv,h1,h2,hb,hc⟩:=h.im.fs.parts hne
 simp only [Value.slice.injEq] at hv
 obtain ⟨ha,_,hcap⟩:=hv
 subst hcap
 refine ⟨tb,off,ha,h1,h2,fun W hW => ⟨?_,fun q hq => show El fdE W tb (off + q * 7) g.fs[q] from (hc q hq).below hW hb⟩⟩
 have:=(h.later hW).cells.2.1
 rw [ha] at this; exact this
theorem GB.md {w0 : World} {b : Nat} {g : Img} (h : GB w0 b g) (hne : g.ms ≠ []) : ∃ tb off,g.ma = some ⟨tb,off,none⟩∧g.ms.length ≤ g.mc∧g.mc ≤ maxLen∧∀ W,Below w0.heap.size w0 W → W.cell? ⟨b,2,none⟩ = some (.slice (some ⟨tb,off,none⟩) g.ms.length g.mc)∧∀ q (hq : q < g.ms.length),El mdE W tb (off + q * 12) g.ms[q]:=by
 obtain ⟨tb,off,cap,hv,h1,h2,hb,hc⟩:=h.im.ms.parts hne
 simp only [Value.slice.injEq] at hv
 obtain ⟨ha,_,hcap⟩:=hv
 subst hcap
 refine ⟨tb,off,ha,h1,h2,fun W hW => ⟨?_,fun q hq => show El mdE W tb (off + q * 12) g.ms[q] from (hc q hq).below hW hb⟩⟩
 have:=(h.later hW).cells.2.2.1
 rw [ha] at this; exact this
theorem grown_below11 {w w' : World} {base B : Nat} {v : Value} {l : List Int} (ho : OwnI w base v l) (hg : w.grownBy w' v.ownBlock) (hB : B ≤ base) (hs : B ≤ w.heap.size) : Below B w w' :=
 ⟨hg.os,hg.tape,hg.output,hg.size,fun k hk => hg.block k (by omega) (fun e => by have:=ho.block k e.symm; omega)⟩
def lenV : Value → Nat
 | .slice _ n _ => n
 | _ => 0
theorem OwnI.lenV {w : World} {base : Nat} {v : Value} {l : List Int} (h : OwnI w base v l) : lenV v = l.length:=by
 obtain ⟨a,c,e,_⟩:=h.is
 rw [e,i64s_length]; rfl

set_option maxHeartbeats 4000000 in
set_option maxRecDepth 100000 in
theorem refUp_any {g : Img} {t : Int} {w : World} (hg : Im w g) (hi : imB g = true) :
  Calls Tryd.prog 35 #[imV g,.int .i64 t] w fun e w' => ∃ v,e = .returned v∧OwnI w' w.heap.size v (upL g t)∧Below w.heap.size w w':=by
 obtain ⟨w0,hw0⟩ : ∃ W,W = w.alloc (.cells (imC g) 26):=⟨_,rfl⟩
 have HW0 : Hid (w0 = _):=hw0
 obtain ⟨hb0,hgb⟩:=GB.made hg hw0
 have HB0 : Hid (Below w.heap.size w w0):=hb0
 have HG : Hid (GB w0 w.heap.size g):=hgb
 have hln:=(im_len hi).1
 have HTh : Hid (∀ W (t : Int),Below w0.heap.size w0 W → Calls Tryd.prog 9 #[.agg (imC g),.int .i64 t] W fun e w' => e = .returned (.bool (numB t g.ts.length))∧Below W.heap.size W w'):=fun W t hW => refThere_any t (hgb.im.later hW)
 have HC4 : Hid (∀ W,Below w0.heap.size w0 W → W.cell? ⟨w.heap.size,0,none⟩ = some (.slice g.ta g.ts.length g.tc)∧W.cell? ⟨w.heap.size,1,none⟩ = some (.slice g.fa g.fs.length g.fc)∧W.cell? ⟨w.heap.size,2,none⟩ = some (.slice g.ma g.ms.length g.mc)∧W.cell? ⟨w.heap.size,3,none⟩ = some (.int .i64 g.en)):=fun W hW => (hgb.later hW).cells
 unfold imC at HW0 HTh
 clear hw0 hb0 hgb hg hi
 unfold imV
 go_enter Tryd.func35,Tryd.ntmps35
 go_wp2_with (rw [← HW0.out])
 obtain ⟨t0,ht0⟩ : ∃ x,x = t:=⟨_,rfl⟩
 have HT0 : Hid (upG g (g.ts.length + 2) [] t = upL g t0):=by show _ = _; rw [ht0]; rfl
 go_loopw [1,5] (fun tv lv wr => ∃ (x : Int) (k : Nat) (L : List Int),tv = .int .i64 x∧Hid (OwnI wr w0.heap.size lv L)∧Below w0.heap.size w0 wr∧Hid (Nd g.ts.length 0 L)∧k + L.length = g.ts.length + 2∧Hid (upG g k L x = upL g t0)) (fun _ lv _ => g.ts.length + 2 - lenV lv)
 case atStart => exact ⟨t,g.ts.length + 2,[],rfl,OwnI.nil _ _,Below.refl _ _,Nd.nil _,rfl,HT0.out⟩
 case round =>
  obtain ⟨x,k,L,rfl,HO,hB,HN,hk,HU⟩:=hrel
  have hLl:=HN.out.len
  have HBL : Hid (Below w0.heap.size w0 wr):=hB
  obtain ⟨k',rfl⟩ : ∃ k',k = k' + 1:=⟨k - 1,by omega⟩
  obtain ⟨c0,c1,c2,c3⟩:=HC4.out wr hB
  have hlen:=HO.out.lenV
  clear hB
  go_wp2_with fail
  refine Calls.mono (HTh.out wr x HBL.out) ?_
  rintro e w1 ⟨rfl,hb1⟩
  have HB1 : Hid (Below w0.heap.size w0 w1):=bstep HBL.out hb1
  have HO1 : Hid (OwnI w1 w0.heap.size u5 L):=HO.out.later hb1
  clear hb1 c0 c1 c2 c3 HO HBL
  cases hn : numB x g.ts.length with
  | false =>
   have HE : Hid (L = upL g t0):=by show _ = _; rw [← HU.out,upG,if_neg (by rw [hn]; simp)]
   clear hn
   go_wp2_with fail
   go_ret
   exact ⟨_,rfl,by rw [← ht0,← HE.out]; exact HO1.out.mono HB0.out.size,bstep HB0.out HB1.out⟩
  | true =>
   go_wp2_with fail
   refine (refHas_any HO1.out.is x).mono ?_
   rintro e wz ⟨rfl,hz⟩
   subst wz
   cases hh : L.contains x with
   | true =>
    have HE : Hid (L = upL g t0):=by show _ = _; rw [← HU.out,upG,if_neg (by rw [hh]; simp)]
    clear hn hh
    go_wp2_with fail
    go_ret
    exact ⟨_,rfl,by rw [← ht0,← HE.out]; exact HO1.out.mono HB0.out.size,bstep HB0.out HB1.out⟩
   | false =>
    have HU2 : Hid (upG g k' (L ++ [x]) (exI g x) = upL g t0):=by show _ = _; rw [← HU.out,upG,if_pos ⟨hn,hh⟩]
    have HN2 : Hid (Nd g.ts.length 0 (L ++ [x])):=by have:=HN.out.step x; rw [stepC_new hn hh] at this; exact this
    obtain ⟨q,rfl,hq⟩:=num_nat hn
    have HX : Hid (exI g (q : Int) = g.ts[q].ex):=exI_at hq
    obtain ⟨tb,off,hta,h6,h7,hty⟩:=HG.out.ty (by intro e; rw [e] at hq; simp at hq)
    have HTY : Hid (∀ W,Below w0.heap.size w0 W → W.cell? ⟨w.heap.size,0,none⟩ = some (.slice (some ⟨tb,off,none⟩) g.ts.length g.tc)∧W.cell? ⟨tb,off + q * 4 + 2,none⟩ = some (.int .i64 g.ts[q].ex)):=fun W hW => ⟨(hty W hW).1,((hty W hW).2 q hq).2.2.1⟩
    unfold maxLen at h7
    clear hty hn hh hta
    generalize g.ts[q].ex = y at *
    go_wp2_with (at_builtin; go_must (refine wpList_append_int (v:=u5) rfl (.tmp 15) (.tmp 17) rfl w0.heap.size rfl rfl (HO1.out.later (made_below _ _ _)) (one_int w1 q _ rfl) (by omega) (Nat.le_trans HB1.out.size (made_below _ _ _).size) ?_; intro v5 w5 ho5 hg5; have hB5:=(bbox HB1.out _).trans (grown_below11 (HO1.out.later (made_below _ _ _)) hg5 (Nat.le_refl _) (Nat.le_trans HB1.out.size (made_below _ _ _).size)); obtain ⟨d0,d1⟩:=HTY.out w5 hB5))
    have hl5:=ho5.lenV
    clear d0 d1
    go_roundw
    case rel => exact ⟨y,k',L ++ [(q : Int)],rfl,ho5,hB5,HN2.out,by simp; omega,by rw [← HX.out]; exact HU2.out⟩
    case measure => simp at hl5; omega
end Go.Proofs.YtapocgcdjkbnhaaDoor

namespace Go.Proofs.YtapocgcdjkbnhaaDoor
open Go.Shelf
def lays189_ren : Go.Shelf.Ren:=⟨fun | 189 => 46 | 125 => 56 | 257 => 55 | 128 => 70 | 129 => 71 | 294 => 61 | 295 => 62 | 296 => 63 | 297 => 64 | 298 => 65 | 299 => 66 | 216 => 67 | 300 => 68 | 301 => 69 | 328 => 75 | 329 => 76 | 330 => 77 | 331 => 78 | 332 => 79 | 215 => 80 | 343 => 83 | n => n,fun | 28 => 40 | 3 => 3 | 46 => 75 | 0 => 0 | 51 => 95 | 53 => 97 | 4 => 4 | 183 => 88 | 182 => 87 | 131 => 92 | 5 => 5 | 9 => 9 | 218 => 102 | 222 => 106 | 228 => 111 | 229 => 48 | n => n,fun | n => n⟩
theorem lays189 : Go.Proofs.Lays.n189 Tryd.prog lays189_ren := {
 mixed:=by kernel_rfl
 f125:=Tryd.func56.trans (congrArg some (by kernel_rfl))
 f128:=Tryd.func70.trans (congrArg some (by kernel_rfl))
 f129:=Tryd.func71.trans (congrArg some (by kernel_rfl))
 f189:=Tryd.func46.trans (congrArg some (by kernel_rfl))
 f215:=Tryd.func80.trans (congrArg some (by kernel_rfl))
 f216:=Tryd.func67.trans (congrArg some (by kernel_rfl))
 f257:=Tryd.func55.trans (congrArg some (by kernel_rfl))
 f294:=Tryd.func61.trans (congrArg some (by kernel_rfl))
 f295:=Tryd.func62.trans (congrArg some (by kernel_rfl))
 f296:=Tryd.func63.trans (congrArg some (by kernel_rfl))
 f297:=Tryd.func64.trans (congrArg some (by kernel_rfl))
 f298:=Tryd.func65.trans (congrArg some (by kernel_rfl))
 f299:=Tryd.func66.trans (congrArg some (by kernel_rfl))
 f300:=Tryd.func68.trans (congrArg some (by kernel_rfl))
 f301:=Tryd.func69.trans (congrArg some (by kernel_rfl))
 f328:=Tryd.func75.trans (congrArg some (by kernel_rfl))
 f329:=Tryd.func76.trans (congrArg some (by kernel_rfl))
 f330:=Tryd.func77.trans (congrArg some (by kernel_rfl))
 f331:=Tryd.func78.trans (congrArg some (by kernel_rfl))
 f332:=Tryd.func79.trans (congrArg some (by kernel_rfl))
 f343:=Tryd.func83.trans (congrArg some (by kernel_rfl))
 t0:=Tryd.underlying0
 a0:=Tryd.isAgg0
 z0:=Tryd.sizeOf0
 v0:=Tryd.zeroValue0
 t3:=Tryd.underlying3
 a3:=Tryd.isAgg3
 z3:=Tryd.sizeOf3
 v3:=Tryd.zeroValue3
 t4:=Tryd.underlying4
 a4:=Tryd.isAgg4
 z4:=Tryd.sizeOf4
 v4:=Tryd.zeroValue4
 t5:=Tryd.underlying5
 a5:=Tryd.isAgg5
 z5:=Tryd.sizeOf5
 v5:=Tryd.zeroValue5
 t9:=Tryd.underlying9
 a9:=Tryd.isAgg9
 z9:=Tryd.sizeOf9
 v9:=Tryd.zeroValue9
 t28:=Tryd.underlying40
 a28:=Tryd.isAgg40
 z28:=Tryd.sizeOf40
 v28:=Tryd.zeroValue40
 t46:=Tryd.underlying75
 a46:=Tryd.isAgg75
 z46:=Tryd.sizeOf75
 v46:=Tryd.zeroValue75
 t51:=Tryd.underlying95
 a51:=Tryd.isAgg95
 z51:=Tryd.sizeOf95
 v51:=Tryd.zeroValue95
 t53:=Tryd.underlying97
 a53:=Tryd.isAgg97
 z53:=Tryd.sizeOf97
 v53:=Tryd.zeroValue97
 t131:=Tryd.underlying92
 a131:=Tryd.isAgg92
 z131:=Tryd.sizeOf92
 v131:=Tryd.zeroValue92
 t182:=Tryd.underlying87
 a182:=Tryd.isAgg87
 z182:=Tryd.sizeOf87
 v182:=Tryd.zeroValue87
 t183:=Tryd.underlying88
 a183:=Tryd.isAgg88
 z183:=Tryd.sizeOf88
 v183:=Tryd.zeroValue88
 t218:=Tryd.underlying102
 a218:=Tryd.isAgg102
 z218:=Tryd.sizeOf102
 v218:=Tryd.zeroValue102
 t222:=Tryd.underlying106
 a222:=Tryd.isAgg106
 z222:=Tryd.sizeOf106
 v222:=Tryd.zeroValue106
 t228:=Tryd.underlying111
 a228:=Tryd.isAgg111
 z228:=Tryd.sizeOf111
 v228:=Tryd.zeroValue111
 t229:=Tryd.underlying48
 a229:=Tryd.isAgg48
 z229:=Tryd.sizeOf48
 v229:=Tryd.zeroValue48 }
open Go.Sort Go.RowKit in
theorem slices_Sort_int (blk off cap : Nat) (zs : List Int) (w : World) (hH : Holds (Value.int .i64) w blk off zs.toArray) (hblk : blk < w.heap.size) (hsz : zs.length < 4611686018427387904) :
  Calls Tryd.prog 46 #[.slice (some ⟨blk,off,none⟩) zs.length cap] w fun e w' =>
   e = .returned (.tuple #[])∧∃ n os,w' = grow (putRow (Value.int .i64) (Sort.ahead w n) blk off (zs.mergeSort fun x y => decide (x ≤ y)).toArray) os:=Any.slices_Sort_int lays189 blk off cap zs w hH hblk hsz
open Go.RowKit in
theorem slices_Sort_int_none (p : Option Addr) (cap : Nat) (w : World) : Calls Tryd.prog 46 #[.slice p 0 cap] w fun e w' => e = .returned (.tuple #[])∧w' = w:=Any.slices_Sort_int_none lays189 p cap w
end Go.Proofs.YtapocgcdjkbnhaaDoor
