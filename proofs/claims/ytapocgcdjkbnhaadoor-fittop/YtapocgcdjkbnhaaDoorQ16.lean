/- Texts joined: LiF11. -/
import Derived.Test.YtapocgcdjkbnhaaDoorQ10
namespace Go.Proofs.YtapocgcdjkbnhaaDoor
set_option linter.unusedVariables false
set_option linter.unusedSimpArgs false
open Go.RowKit
attribute [local go_sem ↓] Go.wp_at_zero Go.wp_at_succ
structure LiF (w : World) (a : Option Addr) (n c : Nat) (L : List Int) : Prop where
 is : Is w (.slice a n c) L
 at0 : ∀ {i : Nat},i < L.length → ∃ b,a = some ⟨b,0,none⟩
theorem LiF.of {w : World} {base : Nat} {a : Option Addr} {c : Nat} {L : List Int} (h : OwnI w base (.slice a L.length c) L) : Hid (LiF w a L.length c L):=⟨h.is,fun {i} hi => by
 obtain ⟨g,cap,hv,_⟩:=h.parts (by intro e; rw [e] at hi; simp at hi)
 simp only [Value.slice.injEq] at hv
 exact ⟨g,hv.1⟩⟩
end Go.Proofs.YtapocgcdjkbnhaaDoor
