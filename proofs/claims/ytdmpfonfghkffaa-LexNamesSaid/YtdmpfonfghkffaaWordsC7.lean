/-
  What works and Words answer, at hand for the laws of layer 7. Conditions: as each theorem states.
-/
import Derived.Test.YtdmpfonfghkffaaWorks07
import Derived.Test.YtdmpfonfghkffaaLex7c
import Derived.Test.YtdmpfonfghkffaaLex7d
namespace Go.Proofs.Ytdmpfonfghkffaa
open Go.RowKit Lex
theorem works7_c (w : World) : Calls Try.prog 9 #[] w fun e w' => e = .returned (.bool true) ∧ Kept (fun _ => False) w w' := works7_walk w (words_k w) (join_k w)
theorem words7_w (s : ByteArray) (hs : s.size ≤ 1000000) (ws : List Wd) (p : Nat) (er : Int) (h : answer s.data.toList = (ws, p, er)) (W : World) :
    Calls Try.prog 12 #[.string s] W fun e w' => (∃ v, e = .returned (.tuple #[v, .int .i64 (p : Int), .int .i64 er]) ∧ WdS w' v ws) ∧ Kept (fun _ => False) W w' := words_lit7 (words_k W) s hs ws p er h W (Kept.refl _ _)
end Go.Proofs.Ytdmpfonfghkffaa
