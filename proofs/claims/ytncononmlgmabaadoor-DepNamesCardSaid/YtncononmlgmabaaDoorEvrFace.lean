/-
  What the walks ask of the program's May, Show and Parse of EVRs, and what these answer.  Conditions: as each theorem states.
-/
import Derived.Test.YtncononmlgmabaaDoorEvrKit
import Derived.Test.YtncononmlgmabaaDoorRows
import Derived.Handy
import Derived.Lib.Hide
import Derived.WalkKit
namespace Go.Proofs.YtncononmlgmabaaDoor
open Go.RowKit Ver Evr

theorem bytes_ext {x y : ByteArray} (h : x.data.toList = y.data.toList) : x = y := ByteArray.ext (Array.ext' h)
theorem box_off {w : World} {g : Nat} {t : TypeId} {cs : Array Value} (h : Box w g t cs) (p : Addr) (hne : g ≠ p.block) (u : Value) : Box (w.setCell p u) g t cs := (Below.heap_setCell w p u g hne).trans h
abbrev zeroE : Array Value := #[.int .i64 0, .string ⟨#[]⟩, .string ⟨#[]⟩]
theorem app_list3 (x y : ByteArray) : (x ++ y).data.toList = x.data.toList ++ y.data.toList := by simp [ByteArray.data_append]
/-- What Show answers. -/
def showR (n : Int) (v r : ByteArray) : Value := if mayE (evrE n v r) true = true then .tuple #[.string ⟨(showE (evrE n v r)).toArray⟩, .int .i64 0] else .tuple #[.string ⟨#[]⟩, .int .i64 4]
theorem show_no {n : Int} {v r : ByteArray} (h : mayE (evrE n v r) true = false) : showR n v r = .tuple #[.string ⟨#[]⟩, .int .i64 4] := by unfold showR; rw [h]; rfl
theorem bytes_of (s : ByteArray) : s = ⟨s.data.toList.toArray⟩ := by cases s; simp
theorem show_yes {n : Int} {v r t : ByteArray} (h : mayE (evrE n v r) true = true) (ht : t.data.toList = showE (evrE n v r)) : showR n v r = .tuple #[.string t, .int .i64 0] := by
  unfold showR
  rw [h, if_pos rfl, ← ht, ← bytes_of]

/-- What Parse answers. -/
def parseV : Option E → Value
  | some e => .tuple #[.agg #[.int .i64 e.epoch, .string ⟨e.ver.toArray⟩, .string ⟨e.rel.toArray⟩], .int .i64 0]
  | none => .tuple #[.agg #[.int .i64 0, .string ⟨#[]⟩, .string ⟨#[]⟩], .int .i64 4]
def parseA (s : List UInt8) : Value := parseV (parseE s)
theorem three {w w3 : World} (h : Kept (fun _ => False) w w3) (a b c : Value) : Kept (fun _ => False) w (((w3.setCell ⟨w.heap.size, 0, none⟩ a).setCell ⟨w.heap.size, 1, none⟩ b).setCell ⟨w.heap.size, 2, none⟩ c) :=
  ((h.setCell (p := ⟨w.heap.size, 0, none⟩) (.inr (Nat.le_refl _)) _).setCell (p := ⟨w.heap.size, 1, none⟩) (.inr (Nat.le_refl _)) _).setCell (p := ⟨w.heap.size, 2, none⟩) (.inr (Nat.le_refl _)) _
def MayK3 : Prop := ∀ (n : Int) (v r : ByteArray) (dep : Bool) (w : World), v.size ≤ 1000000 → r.size ≤ 1000000 →
  Calls Tryd.prog 23 #[.agg #[.int .i64 n, .string v, .string r], .bool dep] w fun e w' => e = .returned (.bool (mayE (evrE n v r) dep)) ∧ Kept (fun _ => False) w w'
def ShowK3 (w0 : World) : Prop := ∀ (n : Int) (v r : ByteArray) (w : World), v.size ≤ 1000000 → r.size ≤ 1000000 → Kept (fun _ => False) w0 w →
  Calls Tryd.prog 34 #[.agg #[.int .i64 n, .string v, .string r]] w fun e w' => e = .returned (showR n v r) ∧ Kept (fun _ => False) w w'
def ParseK3 (w0 : World) : Prop := ∀ (s : ByteArray) (w : World), s.size ≤ 1000000 → Kept (fun _ => False) w0 w →
  Calls Tryd.prog 40 #[.string s] w fun e w' => e = .returned (parseA s.data.toList) ∧ Kept (fun _ => False) w w'
/-- What Parse answers, in its parts: an EVR that reads as the plain one, or nothing and ErrForm. -/
theorem parse_parts (s : List UInt8) : ∃ (n : Int) (v r : ByteArray) (er : Int), parseA s = .tuple #[.agg #[.int .i64 n, .string v, .string r], .int .i64 er] ∧
    ((er = 0 ∧ parseE s = some (evrE n v r)) ∨ (er = 4 ∧ n = 0 ∧ v = ⟨#[]⟩ ∧ r = ⟨#[]⟩ ∧ parseE s = none)) := by
  unfold parseA
  cases hp : parseE s with
  | none => exact ⟨0, ⟨#[]⟩, ⟨#[]⟩, 4, rfl, .inr ⟨rfl, rfl, rfl, rfl, rfl⟩⟩
  | some e => exact ⟨e.epoch, ⟨e.ver.toArray⟩, ⟨e.rel.toArray⟩, 0, rfl, .inl ⟨rfl, rfl⟩⟩
theorem parse_sizes {s : List UInt8} {n : Int} {v r : ByteArray} (h : parseE s = some (evrE n v r)) : v.size ≤ 64 ∧ r.size ≤ 64 ∧ 0 ≤ n ∧ n ≤ 2147483647 := by
  obtain ⟨h1, h2, h3, h4⟩ := may_parts (show_parse h).1
  have h5 := (word_ok h3).2.2
  refine ⟨h5, ?_, h1, h2⟩
  rcases h4 with h4 | h4
  · have : r.data.toList.length = r.size := rfl
    rw [← this, show r.data.toList = [] from h4]; simp
  · exact (word_ok h4).2.2
/-- A struct in the result's cell. -/
theorem evr_result {fn : Func} {p : Tmp} (h : fn.results = #[.cell p 25]) (tmps : Array Value) (W : World) (g : Nat) (cs : Array Value) (hp : tmps.getD p undef = .pointer (some ⟨g, 0, none⟩)) (hB : Box W g 25 cs) (hs : cs.size = 3) :
    (results fn tmps).run Tryd.prog W = .ok (.agg cs) W :=
  results_cell_row h tmps W g 25 cs (0, 0) _ hp hB Tryd.underlying25 rfl (by rw [hs]; kernel_rfl)
end Go.Proofs.YtncononmlgmabaaDoor
