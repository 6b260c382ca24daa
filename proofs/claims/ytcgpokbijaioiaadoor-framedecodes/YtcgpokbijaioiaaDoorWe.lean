/- A writer's words and bits; all that was written. -/
import Derived.Test.YtcgpokbijaioiaaDoorWd
namespace Go.Proofs.YtcgpokbijaioiaaDoor
open Go.RowKit
set_option maxRecDepth 100000
attribute [local go_sem] not_any mf_any

/- words in so many bytes each -/
def wordsB (n : Nat) (ws : List Nat) : List Nat := ws.flatMap (fun x => fix x n)
theorem wordsB_snoc (n : Nat) (ws : List Nat) (x : Nat) : wordsB n (ws ++ [x]) = wordsB n ws ++ fix x n := by simp [wordsB]
theorem wordsB_length (n : Nat) : ∀ ws, (wordsB n ws).length = ws.length * n
  | [] => by simp [wordsB]
  | x :: ws => by
    have h : wordsB n (x :: ws) = fix x n ++ wordsB n ws := by simp [wordsB]
    rw [h, List.length_append, fix_length, wordsB_length n ws, List.length_cons, Nat.add_mul]; omega
theorem wordsB_lt (n : Nat) : ∀ ws, Lt 256 (wordsB n ws)
  | [] => fun x hx => by cases hx
  | x :: ws => by
    have h : wordsB n (x :: ws) = fix x n ++ wordsB n ws := by simp [wordsB]
    rw [h]
    exact (fix_lt n x).append (wordsB_lt n ws)

end Go.Proofs.YtcgpokbijaioiaaDoor
