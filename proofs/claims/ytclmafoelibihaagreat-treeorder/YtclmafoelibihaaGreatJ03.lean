/- Texts joined: Conv. -/
import Derived.Test.YtclmafoelibihaaGreatRows
import Derived.Test.YtclmafoelibihaaGreatJ02
import Derived.Deep.RegionLaw
import Derived.Lib.BytesEntry
import Derived.Laws.BytesArg
/- 'string(b)', 'v[lo:]', an append and a call as one step of a region that draws, texts that are alike. -/
namespace Go.Proofs.YtclmafoelibihaaGreat
set_option linter.unusedVariables false
set_option linter.unusedSimpArgs false
open Go.RowKit Go.Maps

theorem convert_bs {w : World} {v : Value} {bs : List UInt8} (h : Bs w v bs) : (convert 114 9 v).run Tryz.prog w = .ok (.string ⟨bs.toArray⟩) w := by
  obtain ⟨a, cap, rfl, h1, h2, h3⟩ := h
  cases a with
  | none =>
    have hys : bs = [] := by
      by_cases h : bs = []
      · exact h
      · obtain ⟨b, off, hh, _⟩ := h3 h; simp at hh
    subst hys
    exact run_convert_bytes_nil w 114 5 Tryz.underlying114 Tryz.underlying5 _ _ _ Tryz.underlying9
  | some ad =>
    refine run_convert_bytes_back w 114 9 5 ad cap bs Tryz.underlying114 Tryz.underlying5 Tryz.underlying9 fun j hj => ?_
    obtain ⟨b, off, hh, _, hc⟩ := h3 (by intro e; subst e; simp at hj)
    simp only [Option.some.injEq] at hh
    subst hh
    have hplain : (⟨b, off, none⟩ : Addr).add j = ⟨b, off + j, none⟩ := by unfold Addr.add; split <;> simp_all
    rw [hplain]; exact hc j hj

/-- 'v[lo:]' of a slice of bytes. -/
theorem slice_from {P : Program} {w : World} {a : Option Addr} {cap : Nat} {bs : List UInt8} (hv : Bs w (.slice a bs.length cap) bs) (lo : Nat) (h : lo ≤ bs.length) (t e : TypeId) (ht : P.underlying t = some (.slice e)) (hs : (P.info? e).map (·.size) = some 1) :
    ∃ a' cap', (∀ (W : World) (k1 : IntKind), (Instr.slice t (.slice a bs.length cap) (some (.int k1 (lo : Int))) none none).run P W = .ok (.slice a' (bs.length - lo) cap') W) ∧ Bs w (.slice a' (bs.length - lo) cap') (bs.drop lo) ∧
      (∀ k, (Value.slice a' (bs.length - lo) cap').ownBlock = some k → (Value.slice a bs.length cap).ownBlock = some k) := by
  obtain ⟨a', cap', h1, h2, h3⟩ := slice_bs (P := P) hv lo (bs.length - lo) (by omega) t e ht hs
  have hseg : seg bs lo (bs.length - lo) = bs.drop lo := by unfold seg; rw [List.take_of_length_le (by simp)]
  rw [hseg] at h2
  refine ⟨a', cap', fun W k1 => ?_, h2, h3⟩
  have := h1 W k1 .i64
  rw [show (lo : Int) + ((bs.length - lo : Nat) : Int) = (bs.length : Int) by omega] at this
  rw [← this]
  have hcap : bs.length ≤ cap := by obtain ⟨_, _, he, g1, _⟩ := hv; simp only [Value.slice.injEq] at he; omega
  have b1 : (Instr.sliceBound (.int .i64 (bs.length : Int)) cap .sliceAcap).run P W = .ok bs.length W := by rw [run_sliceBound _ _ _ _ _ (by omega) (by omega)]; simp
  simp [Instr.slice, run_underlying ht, Instr.sliceBounds, b1]

/-- An append as one step of a region that draws. -/
theorem step_append_at {P : Program} {ops : Array Oper} {o : Oper} {a : Act} {w : World} {K : Act → World → Prop} {Q : Exit → Act → World → Prop} {E : Prop} (hg : o.guard = none) (s x : Operand) (t tx : TypeId)
    (ho : o.op = .call { callee := .builtin .append, args := #[s, x], argTypes := #[t, tx] }) (base : Nat) (e : TypeId) (z : Value) (bytes : Nat) (ht : P.underlying t = some (.slice e)) (hinfo : (P.info? e).map (fun i => (i.zero, i.size, i.bytes)) = some (some z, 1, bytes)) (hzs : z.cells.size = 1)
    {v y : Value} {xs news : List Value} {n : Nat} (hs : a.eval s = v) (hx : a.eval x = y) (hv : OwnV w base e v xs) (hy : Src P 1 tx y n news w) (h63 : xs.length + n ≤ maxLen) (hb : ((xs.length + n) + (xs.length + n) / 4 + 192) * bytes ≤ 281474976710656) (hbase : base ≤ w.heap.size)
    (h : ∀ v' w', OwnV w' base e v' (xs ++ news) → w.grownBy w' v.ownBlock → K (a.put o.dst v') w') : if Region.wanted o (yielded ops a.tmps) = true then Oper.wp P o a w K Q else E := by
  have hw : Region.wanted o (yielded ops a.tmps) = true := by simp [Region.wanted, hg]
  rw [if_pos hw]
  obtain ⟨i, hi, hz0, hz1, hz2⟩ := info_parts hinfo
  subst hz2
  obtain ⟨v', w', hr, h2, h3, h4, h5⟩ := run_append_at (P := P) w base t tx o.type e i z ht hi hz0 hz1 hzs hv hy h63 hb hbase
  unfold Oper.wp execOp
  simp only [ho, resolve, invoke, builtin, Sem.run_bind, Sem.run_pure, Result.andThen_ok, List.map_toArray, List.map_cons, List.map_nil, hs, hx, hr]
  exact h v' w' h2 h3

theorem toList_eq (s : ByteArray) : s.toList = s.data.toList := Lib.toList_data s
theorem str_eq (s t : ByteArray) : (s.toList == t.toList) = decide (s.data.toList = t.data.toList) := by
  rw [toList_eq, toList_eq]
  generalize s.data.toList = a
  generalize t.data.toList = b
  by_cases h : a = b <;> simp [h]

theorem one_src0 {P : Program} {tx e' : TypeId} (hk : P.underlying tx = some (.slice e')) (w : World) (x : Value) (e : TypeId) (g : Nat) (hg : g = w.heap.size) (h1 : x.oneCell' = true) : Src P 1 tx (.slice (some ⟨g, 0, none⟩) 1 1) 1 [x] (w.alloc (Obj.cells #[x] e)) := by
  subst hg
  exact (Sl.made w [x] #[x] e 1 rfl rfl (by simp [maxLen])).src hk (by intro u hu; simp at hu; subst hu; exact h1)

/-- A call of a Go function of one argument as one step of a region that draws. -/
theorem step_call1 {P : Program} {ops : Array Oper} {o : Oper} {a : Act} {w : World} {K : Act → World → Prop} {Q : Exit → Act → World → Prop} {E : Prop} (hg : o.guard = none) (f : FuncId) (x : Operand) (t : TypeId)
    (ho : o.op = .call { callee := .value (.func f), args := #[x], argTypes := #[t] }) {v : Value} (hx : a.eval x = v) (hrun : ∀ w, (callFunc f #[v]).run P w = .ok (.enter f #[v]) w) {R : Ending → World → Prop} (hc : Calls P f #[v] w R)
    (h : ∀ e w', R e w' → ∃ r, e = .returned r ∧ K (a.put o.dst r) w') : if Region.wanted o (yielded ops a.tmps) = true then Oper.wp P o a w K Q else E := by
  have hw : Region.wanted o (yielded ops a.tmps) = true := by simp [Region.wanted, hg]
  rw [if_pos hw]
  have he : (execOp a.eval o).run P w = .ok (.enter f #[v]) w := by
    have hv : a.eval (.func f) = .func (.func f) #[] #[] := rfl
    unfold execOp
    simp [ho, resolve, invoke, hv, Deferred.ofValue, hx, hrun, Result.andThen]
  unfold Oper.wp
  rw [he, Oper.upon_enter]
  refine hc.mono ?_
  intro e w' hR
  obtain ⟨r, rfl, hk⟩ := h e w' hR
  exact hk

end Go.Proofs.YtclmafoelibihaaGreat
