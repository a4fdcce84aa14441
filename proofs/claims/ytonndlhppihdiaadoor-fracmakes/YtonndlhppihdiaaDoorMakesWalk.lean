/-
  The law FracMakes, walked: any fraction, any two numbers.
-/
import Derived.Test.YtonndlhppihdiaaDoorEnv
import Derived.Test.YtonndlhppihdiaaDoorMakesOk
import Derived.Test.YtonndlhppihdiaaDoorMakesErr
namespace Go.Proofs.YtonndlhppihdiaaDoor
open Go.ChangeShapes Go.WideShapes Go.ChangeAt Go.RowKit
set_option linter.unusedVariables false
set_option linter.unusedSimpArgs false

theorem mkE_cases (n d : Int) : mkE n d = 0 ∨ mkE n d = 10 ∨ mkE n d = 11 := by
  unfold mkE
  split
  · exact .inr (.inr rfl)
  · split
    · exact .inr (.inl rfl)
    · exact .inl rfl

theorem makes_walk (fn fd n d : Int) (w : World) (h1 : I64 fn) (h2 : I64 fd) (h3 : I64 n) (h4 : I64 d) (ht : Tab w) :
    Calls Tryd.prog 3 #[fr fn fd, .int .i64 n, .int .i64 d] w fun e w' => e = .returned (.bool true) ∧ Below w.heap.size w w' := by
  have M := fun W => make_any n d W h3.1 h3.2 h4.1 h4.2
  have R := fun W => rmake_any n d W h3.1 h3.2 h4.1 h4.2
  have V := fun W => valid_any fn fd W h1.1 h1.2 h2.1 h2.2
  have U := fun W => rvalid_any fn fd W h1.1 h1.2 h2.1 h2.2
  rcases mkE_cases n d with e | e | e
  · rw [e] at M R
    refine makes_ok fn fd n d (mkN n d) (mkD n d) (validB fn fd) w ht M R V U (fun W => ?_)
    have s := mk_sm n d
    unfold Sm at s
    have c := valid_any (mkN n d) (mkD n d) W (by omega) (by omega) (by omega) (by omega)
    rw [mk_valid e] at c
    exact c
  · rw [e] at M R
    exact makes_10 fn fd n d (mkN n d) (mkD n d) (validB fn fd) w ht M R V U
  · rw [e] at M R
    exact makes_11 fn fd n d (mkN n d) (mkD n d) (validB fn fd) w ht M R V U

end Go.Proofs.YtonndlhppihdiaaDoor
