/-
  A loop by a label and a goto back to it: what holds at the label, once; the way to the label is walked by itself.
-/
import Derived.Test.YtdidgenenlefiaaBas
import Derived.WalkMore
import Derived.ScopeJumps
namespace Go.Proofs.Ytdidgenenlefiaa
set_option maxRecDepth 4000

section
variable {P : Program} {a : Act} {w : World} {Q : Exit → Act → World → Prop}
theorem wp_goto_loop {c b : Code} (l : Nat) (J : Act → World → Prop) (μ : Act → World → Nat) (hf : findLabel c l = some (.seq .skip b))
    (first : (∀ a w, J a w → b.wp P (Exit.jump l J Q) a w) → c.wp P (Exit.jump l J Q) a w)
    (pass : ∀ a w, J a w → b.wp P (Exit.jump l (fun a' w' => J a' w' ∧ μ a' w' < μ a w) Q) a w) : (Code.scope c).wp P Q a w := by
  refine wp_scope_jumps l J μ hf (first fun a w h => wp_mono (pass a w h) ?_) fun a w h => wp_seq (wp_skip (pass a w h))
  intro e a' w' hq
  cases e with
  | goto l' => exact ⟨hq.1, hq.2.1⟩
  | _ => exact hq
/-- One step to the label. -/
theorem wp_goto1 {p b : Code} (l : Nat) (J : Act → World → Prop) (μ : Act → World → Nat) (hf : findLabel (.seq p (.seq (.label l) b)) l = some (.seq .skip b))
    (first : p.wp P (Exit.then J fun _ _ _ => False) a w)
    (pass : ∀ a w, J a w → b.wp P (Exit.jump l (fun a' w' => J a' w' ∧ μ a' w' < μ a w) Q) a w) : (Code.scope (.seq p (.seq (.label l) b))).wp P Q a w := by
  refine wp_goto_loop l J μ hf (fun hb => wp_seq (wp_mono first ?_)) pass
  intro e a' w' hq
  cases e with
  | normal => exact wp_seq (wp_label (hb a' w' hq))
  | _ => exact hq.elim
/-- Two steps to the label. -/
theorem wp_goto2 {p q b : Code} (l : Nat) (J : Act → World → Prop) (μ : Act → World → Nat) (hf : findLabel (.seq p (.seq q (.seq (.label l) b))) l = some (.seq .skip b))
    (first : p.wp P (Exit.then (q.wp P (Exit.then J fun _ _ _ => False)) fun _ _ _ => False) a w)
    (pass : ∀ a w, J a w → b.wp P (Exit.jump l (fun a' w' => J a' w' ∧ μ a' w' < μ a w) Q) a w) : (Code.scope (.seq p (.seq q (.seq (.label l) b)))).wp P Q a w := by
  refine wp_goto_loop l J μ hf (fun hb => wp_seq (wp_mono first ?_)) pass
  intro e a' w' hq
  cases e with
  | normal =>
    refine wp_seq (wp_mono hq ?_)
    intro e a' w' hq
    cases e with
    | normal => exact wp_seq (wp_label (hb a' w' hq))
    | _ => exact hq.elim
  | _ => exact hq.elim
end
end Go.Proofs.Ytdidgenenlefiaa
