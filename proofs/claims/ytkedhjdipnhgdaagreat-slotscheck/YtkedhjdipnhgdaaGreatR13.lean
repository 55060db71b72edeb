import Derived.Test.YtkedhjdipnhgdaaGreatR05
namespace Go.Proofs.YtkedhjdipnhgdaaGreat
set_option maxHeartbeats 16000000
set_option linter.all false
open RowKit
theorem zgw (n:Int) (h1:1<=n) (h2:n<=75) (w:World) :
 Calls Tryz.prog 48 #[.int .i64 n] w λe w'=>e=.returned (.tuple #[.agg #[.string (opS n),.int .i64 (opP n),.int .i64 (opW n)],.int .i64 0])/\Below w.heap.size w w':=by
 have:=zp5 (n - 1).toNat (by omega) w
 rw[show ((n - 1).toNat:Int)+1=n by omega]at this
 exact this
theorem zix (op n k i d:Int) (r:Bool) (w:World) :
 Calls Tryz.prog 226 #[.agg #[.int .i64 op,.int .i64 n,.int .i64 k,.int .i64 i,.int .i64 d,.bool r]] w λe w'=>e=.returned (.int .i64 (zge op n k i d r))/\Below w.heap.size w w':=by
 have hb0:Below w.heap.size w (w.alloc (.cells #[.int .i64 op,.int .i64 n,.int .i64 k,.int .i64 i,.int .i64 d,.bool r] 65)):=(Below.refl _ _).alloc (Nat.le_refl _) _;have hA0:=At.made w #[.int .i64 op,.int .i64 n,.int .i64 k,.int .i64 i,.int .i64 d,.bool r] 65;have hz:∀ W:World,(binOp .eql 47 (.agg #[.int .i64 k,.int .i64 i,.int .i64 d,.bool r]) (.agg #[.int .i64 0,.int .i64 0,.int .i64 0,.bool false])).run Tryz.prog W=.ok (.bool (zeo k i d r)) W:=λW=>by
  rw[zoi];cases r <;> rfl
 by_cases hin:1<=op/\op<=75
 ·obtain⟨h1,h2⟩:=hin;have HE:Hid (zge op n k i d r=if zfY (opP op) n k i d r=true then 0 else 17):=by show _=_;unfold zge;rw[if_pos ⟨h1,h2⟩]
  go_enter Tryz.func226,Tryz.ntmps226;go_wp2_with fail
  refine (zgw op h1 h2 _).mono ?_;rintro e w1 ⟨rfl,hb⟩;have hA:=hA0.later hb;have hB:=hb0.trans (hb.mono hb0.size);have hbx:Below w1.heap.size w1 (w1.alloc (.cells #[.string (opS op),.int .i64 (opP op),.int .i64 (opW op)] 81)):=(Below.refl _ _).alloc (Nat.le_refl _) _;have hA2:=hA.later hbx;have hB2:=hB.trans (hbx.mono hB.size);have hX:=At.made w1 #[.string (opS op),.int .i64 (opP op),.int .i64 (opW op)] 81;have tc:=hA2.cell;have xc:=hX.cell;clear hb hb0 hA hA0 hB hbx h1 h2;generalize opP op=p at *;generalize opW op=q at *;generalize opS op=s at *;go_wp2_with fail
  refine (zqR p _).mono ?_;rintro e wz ⟨rfl,hw⟩;subst wz;by_cases hlo:n<bLo p
  ·have HN:Hid (zge op n k i d r=17):=by
    show _=_;rw[HE.out,if_neg];unfold zfY;simp;intro a;omega
   clear HE;by_cases hhi:bHi p<n
   ·go_wp2_with fail
    go_ret;exact⟨zak HN.out.symm,hB2⟩
   ·go_wp2_with fail
    go_ret;exact⟨zak HN.out.symm,hB2⟩
  ·by_cases hhi:bHi p<n
   ·have HN:Hid (zge op n k i d r=17):=by
     show _=_;rw[HE.out,if_neg];unfold zfY;simp;intro a b;omega
    clear HE;go_wp2_with fail
    go_ret;exact⟨zak HN.out.symm,hB2⟩
   ·have HF:Hid (zfY p n k i d r=if p=8 then zbO 1 k i d r else zeo k i d r):=by
     show _=_;unfold zfY;rw[decide_eq_true (by omega),decide_eq_true (by omega)];rfl
    by_cases h8:p=8
    ·subst h8;have HF8:Hid (zfY 8 n k i d r=zbO 1 k i d r):=by show _=_;rw[HF.out,if_pos rfl]
     clear HF;go_wp2_with fail
     refine (zgg k i d r _).mono ?_;rintro e w2 ⟨rfl,hb⟩;have hB3:=hB2.trans (hb.mono hB2.size);clear hb hB2 tc xc
     cases hm:zbO 1 k i d r with
     | false =>
      go_wp2_with fail
      go_ret;exact⟨zak (by rw[HE.out,HF8.out,hm];rfl),hB3⟩
     | true =>
      go_wp2_with fail
      go_ret;exact⟨zak (by rw[HE.out,HF8.out,hm];rfl),hB3⟩
    ·have h8':(p==8)=false:=by simpa using h8
     have h8n:(p != 8)=true:=by simpa using h8
     have HF8:Hid (zfY p n k i d r=zeo k i d r):=by show _=_;rw[HF.out,if_neg h8]
     clear HF h8
     cases hm:zeo k i d r with
     | false =>
      go_wp2_with fail
      go_ret;exact⟨zak (by rw[HE.out,HF8.out,hm];rfl),hB2⟩
     | true =>
      go_wp2_with fail
      go_ret;exact⟨zak (by rw[HE.out,HF8.out,hm];rfl),hB2⟩
 ·have HE:Hid (zge op n k i d r=3):=by show _=_;unfold zge;rw[if_neg hin]
  go_enter Tryz.func226,Tryz.ntmps226;go_wp2_with fail
  refine (zij op hin _).mono ?_;rintro e w1 ⟨rfl,hb⟩;have hB:=hb0.trans (hb.mono hb0.size);have hbx:Below w1.heap.size w1 (w1.alloc (.cells #[.string ⟨#[]⟩,.int .i64 0,.int .i64 0] 81)):=(Below.refl _ _).alloc (Nat.le_refl _) _;have hB2:=hB.trans (hbx.mono hB.size);clear hb hb0 hA0 hB hbx;go_wp2_with fail
  go_ret;exact⟨zak HE.out.symm,hB2⟩
end Go.Proofs.YtkedhjdipnhgdaaGreat
