/-
  What this claim wants of the texts of earlier chapters.
  Conditions: none.
-/
import Derived.Test.YthglkgicckodaaaZStripePutS
namespace Go.Proofs.Ythglkgicckodaaa
open Go.RowKit Go.Shelf
set_option linter.unusedVariables false
set_option linter.unusedSimpArgs false
attribute [local go_sem] Oper.semAt_some
def wrI (q : List Bool) (x l : List Int) : Nat → List Int
  | 0 => l
  | n + 1 => bif q.getD n false then (wrI q x l n).set n (x.getD n 0) else wrI q x l n
def wrB (q : List Bool) (l : List Bool) : Nat → List Bool
  | 0 => l
  | n + 1 => bif q.getD n false then (wrB q l n).set n true else wrB q l n
def NewSt2 (k : Int) (a v : List Int) (f : List Bool) (b : Bool) (w : World) (e : Ending) (w' : World) : Prop := ∃ u x y, e = .returned (.tuple #[.agg #[.int .i64 k, u, x, y], .bool b]) ∧ w.grownBy w' none ∧ StOwn w' w.heap.size u x y a v f
structure HeldW (g s gz : Nat) (cs : List Value) (k : Int) (W : World) : Prop where
  arg : Blk W g 45 cs
  out : OutC W gz
theorem HeldW.kept {g s gz : Nat} {cs : List Value} {k : Int} {W W' : World} {r : Option Nat} (h : HeldW g s gz cs k W) (hg : W.grownBy W' r) (h1 : some g ≠ r) (h2 : some gz ≠ r) : HeldW g s gz cs k W' := ⟨h.arg.kept hg h1, outC_kept h.out hg h2⟩
structure InW (w : World) (g s gz : Nat) (cs : List Value) (j : Nat) (a v D : List Int) (f : List Bool) (z : Int) (q : List Bool) (n : Nat) (W : World) : Prop where
  gr : w.grownBy W none
  arg : Blk W g 45 cs
  out : OutC W gz
  cur : ∃ b1 d1 b2 d2 b3 d3, Blk W s 45 [.int .i64 j, .slice b1 8 d1, .slice b2 8 d2, .slice b3 8 d3] ∧ StOwn W w.heap.size (.slice b1 8 d1) (.slice b2 8 d2) (.slice b3 8 d3) (wrI q D a n) (wrI q (List.replicate 8 (z + 1)) v n) (wrB q f n)
theorem blk_lt {w : World} {g t : Nat} {cs : List Value} (h : Blk w g t cs) : g < w.heap.size := (Array.getElem?_eq_some_iff.1 h).1
end Go.Proofs.Ythglkgicckodaaa
