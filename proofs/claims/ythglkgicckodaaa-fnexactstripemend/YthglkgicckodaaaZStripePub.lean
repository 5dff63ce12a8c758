/-
  What this claim wants of the texts of earlier chapters.
  Conditions: none.
-/
import Derived.Test.YthglkgicckodaaaZStripeBest
namespace Go.Proofs.Ythglkgicckodaaa
open Go.RowKit Go.Shelf
set_option linter.unusedVariables false
set_option linter.unusedSimpArgs false
attribute [local go_sem] Oper.semAt_some
theorem own3 {w : World} {b : Nat} {p q r : Item} (h : OwnAll w b [p, q, r]) : p.Own w b ∧ q.Own w b ∧ r.Own w b ∧ p.Apart q ∧ p.Apart r ∧ q.Apart r := by
  have h2 := h.2
  simp only [List.pairwise_cons, List.mem_cons, List.not_mem_nil, or_false, forall_eq_or_imp, forall_eq] at h2
  exact ⟨h.1 p (by simp), h.1 q (by simp), h.1 r (by simp), h2.1.1, h2.1.2, h2.2.1⟩
theorem mk3 {w : World} {b : Nat} {p q r : Item} (h1 : p.Own w b) (h2 : q.Own w b) (h3 : r.Own w b) (h4 : p.Apart q) (h5 : p.Apart r) (h6 : q.Apart r) : OwnAll w b [p, q, r] := by
  refine ⟨fun x hx => ?_, ?_⟩
  · simp only [List.mem_cons, List.not_mem_nil, or_false] at hx
    rcases hx with rfl | rfl | rfl <;> assumption
  · simp only [List.pairwise_cons, List.mem_cons, List.not_mem_nil, or_false, forall_eq_or_imp, forall_eq]
    exact ⟨⟨h4, h5⟩, h6, by simp, by simp⟩
theorem own_nil (w : World) (b : Nat) : OwnAll w b [] := ⟨by simp, List.Pairwise.nil⟩
theorem own_one {w : World} {b : Nat} {x : Item} (h : x.Own w b) : OwnAll w b [x] := ⟨fun y hy => by simp at hy; subst hy; exact h, by simp⟩
def StOwn (w : World) (base : Nat) (u x y : Value) (a v : List Int) (f : List Bool) : Prop := OwnAll w base [row1 u a, row1 x v, bool1 y f]
theorem StOwn.still {w w' : World} {base : Nat} {u x y : Value} {a v : List Int} {f : List Bool} (h : StOwn w base u x y a v f) (hg : w.grownBy w' none) : StOwn w' base u x y a v f := OwnAll.still h hg
theorem StOwn.lower {w : World} {base base' : Nat} {u x y : Value} {a v : List Int} {f : List Bool} (h : StOwn w base u x y a v f) (hb : base' ≤ base) : StOwn w base' u x y a v f := OwnAll.lower h hb
theorem StOwn.a {w : World} {base : Nat} {u x y : Value} {a v : List Int} {f : List Bool} (h : StOwn w base u x y a v f) : Sl w u a := (row1_own.1 (own3 h).1).sl
theorem StOwn.v {w : World} {base : Nat} {u x y : Value} {a v : List Int} {f : List Bool} (h : StOwn w base u x y a v f) : Sl w x v := (row1_own.1 (own3 h).2.1).sl
theorem StOwn.f {w : World} {base : Nat} {u x y : Value} {a v : List Int} {f : List Bool} (h : StOwn w base u x y a v f) : Bl w y f := (bool1_own.1 (own3 h).2.2.1).bl
def NewSt (k : Int) (a v : List Int) (f : List Bool) (w : World) (e : Ending) (w' : World) : Prop := ∃ u x y, e = .returned (.agg #[.int .i64 k, u, x, y]) ∧ w.grownBy w' none ∧ StOwn w' w.heap.size u x y a v f
theorem sbNe {w : World} {g gz : Nat} {k : Int} {L a v : List Int} {F : List Bool} {old : Array Value} (h : SB w g k L a v F) (ho : w.heap[gz]? = some (.cells old 45 (0, 0))) (e : g = gz) : False := by
  subst e
  have := h.symm.trans ho
  injection this with this
  injection this with _ this
  exact absurd this (by decide)
theorem outRow {w w' : World} {gz base : Nat} {u x y : Value} {a v : List Int} {F : List Bool} {old : Array Value} (h : StOwn w base u x y a v F) (hg : w.grownBy w' (some gz)) (ho : w.heap[gz]? = some (.cells old 45 (0, 0))) : StOwn w' base u x y a v F := by
  have ne : ∀ i : Item, i.Own w base → i.e ≠ 45 → i.Own w' base := fun i hi he => World.ownsRow.kept hi hg (by
    rcases hi.2 with ⟨h0, _⟩ | ⟨g, cap, cur, h0, _, hb, _⟩
    · left; rw [h0]; rfl
    · right
      rw [h0]
      intro e
      injection e with e
      subst e
      have := hb.symm.trans ho
      injection this with this
      injection this with _ this
      exact he this)
  obtain ⟨h0, h1, h2, ab, ac, bc⟩ := own3 h
  exact mk3 (ne _ h0 (show (3 : Nat) ≠ 45 by decide)) (ne _ h1 (show (3 : Nat) ≠ 45 by decide)) (ne _ h2 (show (4 : Nat) ≠ 45 by decide)) ab ac bc
structure HeldPub (g gz : Nat) (k : Int) (L a v : List Int) (F : List Bool) (W : World) : Prop where
  blk : SB W g k L a v F
  out : ∃ old, W.heap[gz]? = some (.cells old 45 (0, 0)) ∧ old.size = 4
theorem HeldPub.still {g gz : Nat} {k : Int} {L a v : List Int} {F : List Bool} {W W' : World} (h : HeldPub g gz k L a v F W) (hg : W.grownBy W' none) : HeldPub g gz k L a v F W' := by
  refine ⟨h.blk.still hg, ?_⟩
  obtain ⟨old, h1, h2⟩ := h.out
  exact ⟨old, (hg.block gz (Array.getElem?_eq_some_iff.1 h1).1 (by simp)).trans h1, h2⟩
theorem HeldPub.vsl {g gz : Nat} {k : Int} {L a v : List Int} {F : List Bool} {W : World} (h : HeldPub g gz k L a v F W) (hl : SLen L a v F) : Sl W (.slice (some ⟨g, 41, none⟩) 8 8) v :=
  ⟨_, 8, by rw [hl.v], by rw [hl.v]; exact Nat.le_refl _, by simp [maxLen], .inr ⟨_, _, rfl, fun i hi => h.blk.ver hl (by rw [hl.v] at hi; exact hi)⟩⟩
theorem HeldPub.fsl {g gz : Nat} {k : Int} {L a v : List Int} {F : List Bool} {W : World} (h : HeldPub g gz k L a v F W) (hl : SLen L a v F) : Bl W (.slice (some ⟨g, 49, none⟩) 8 8) F :=
  ⟨_, 8, by rw [hl.f], by rw [hl.f]; exact Nat.le_refl _, by simp [maxLen], .inr ⟨_, _, rfl, fun i hi => h.blk.there hl (by rw [hl.f] at hi; exact hi)⟩⟩
theorem builtPub (k : Int) (a1 a2 a3 : Option Addr) (n1 n2 n3 c1 c2 c3 : Nat) :
    Try.prog.built 45 [(0, .int .i64 k), (1, .slice a1 n1 c1), (2, .slice a2 n2 c2), (3, .slice a3 n3 c3)] = some #[.int .i64 k, .slice a1 n1 c1, .slice a2 n2 c2, .slice a3 n3 c3] := by kernel_rfl
theorem infoPub : (Try.prog.info? 45).map (·.size) = some 4 := by kernel_rfl
set_option maxHeartbeats 16000000 in
set_option maxRecDepth 40000 in
theorem stPublic {k : Int} {L a v : List Int} {F : List Bool} (hl : SLen L a v F) (w : World) : Calls Try.prog 63 #[.agg (stv k L a v F).toArray] w (NewSt k a v F w) := by
  have HL := Lib.hid hl
  have HA := Lib.hid (infoSh hl.a)
  have S0 := Lib.hid ((SB.new w k L a v F).alloc (.cells #[.int .i64 0, .slice none 0 0, .slice none 0 0, .slice none 0 0] 45))
  have Z0 := heap_alloc_new (w.alloc (.cells (stv k L a v F).toArray 94)) (.cells #[.int .i64 0, .slice none 0 0, .slice none 0 0, .slice none 0 0] 45)
  have G0 := Lib.hid (grown_alloc (World.grownBy_alloc w (.cells (stv k L a v F).toArray 94) none) (.cells #[.int .i64 0, .slice none 0 0, .slice none 0 0, .slice none 0 0] 45))
  rw [World.size_alloc] at Z0
  have H0 : Hid (HeldPub w.heap.size (w.heap.size + 1) k L a v F (((w.alloc (.cells (stv k L a v F).toArray 94)).alloc (.cells #[.int .i64 0, .slice none 0 0, .slice none 0 0, .slice none 0 0] 45)).drew)) := Lib.hid ⟨S0.out.drew, _, Z0, rfl⟩
  have SI := Lib.hid (fun w => shardInts a hl.a w)
  have EC1 := enters_of (P := Try.prog) Try.func87 (by kernel_rfl) rfl
  have EC2 := enters_of (P := Try.prog) Try.func89 (by kernel_rfl) rfl
  have EC3 := enters_of (P := Try.prog) Try.func90 (by kernel_rfl) rfl
  clear hl S0 Z0
  go_enter Try.func63, Try.ntmps63
  go_upto_region 1 with fail
  generalize (w.alloc (.cells (stv k L a v F).toArray 94)).alloc (.cells #[.int .i64 0, .slice none 0 0, .slice none 0 0, .slice none 0 0] 45) = W0 at *
  obtain ⟨g, hg⟩ : ∃ g, g = w.heap.size := ⟨_, rfl⟩
  obtain ⟨gz, hgz⟩ : ∃ g, g = w.heap.size + 1 := ⟨_, rfl⟩
  rw [← hgz, ← hg] at H0
  rw [← hgz, ← hg]
  have LZ : w.heap.size ≤ gz := by omega
  clear hg hgz
  have GD := Lib.hid (grown_drew G0.out)
  have N0 := Lib.hid (own_nil W0.drew w.heap.size)
  clear G0
  refine wp_region_held (S := HeldPub g gz k L a v F) (by kernel_rfl) ?_
  refine Rg.take_ 0 (some 3) (.pointer (some ⟨g, 0, none⟩)) rfl rfl (by kernel_rfl) (by kernel_rfl) (by kernel_rfl) (fun _ _ _ h => h) (.inl ⟨by rfl, fun W' hS => (by go_simp)⟩) H0.out ?_
  simp only [Act.put, List.setIfInBounds_toArray, List.set_cons_zero, List.set_cons_succ]
  refine Rg.take_ 1 (some 4) (.int .i64 k) rfl rfl (by kernel_rfl) (by kernel_rfl) (by kernel_rfl) (fun _ _ _ h => h) (.inl ⟨by rfl, fun W' hS => (by have c := hS.blk.kind; go_simp)⟩) H0.out ?_
  simp only [Act.put, List.setIfInBounds_toArray, List.set_cons_zero, List.set_cons_succ]
  refine Rg.take_ 2 (some 5) (.pointer (some ⟨g, 33, none⟩)) rfl rfl (by kernel_rfl) (by kernel_rfl) (by kernel_rfl) (fun _ _ _ h => h) (.inl ⟨by rfl, fun W' hS => (by go_simp)⟩) H0.out ?_
  simp only [Act.put, List.setIfInBounds_toArray, List.set_cons_zero, List.set_cons_succ]
  refine Rg.take_ 3 (some 6) (.agg (vals a).toArray) rfl rfl (by kernel_rfl) (by kernel_rfl) (by kernel_rfl) (fun _ _ _ h => h) (yieldsIf_load_mid rfl _ _ rfl g 33 rfl (vals a) _ (fun W hS => hS.blk.vals_ HL.out) Try.underlying89 rfl HA.out) H0.out ?_
  simp only [Act.put, List.setIfInBounds_toArray, List.set_cons_zero, List.set_cons_succ]
  refine Rg.take_ 5 (some 8) (.pointer (some ⟨g, 41, none⟩)) rfl rfl (by kernel_rfl) (by kernel_rfl) (by kernel_rfl) (fun _ _ _ h => h) (.inl ⟨by rfl, fun W' hS => (by go_simp)⟩) H0.out ?_
  simp only [Act.put, List.setIfInBounds_toArray, List.set_cons_zero, List.set_cons_succ]
  refine Rg.take_ 6 (some 9) (.slice (some ⟨g, 41, none⟩) 8 8) rfl rfl (by kernel_rfl) (by kernel_rfl) (by kernel_rfl) (fun _ _ _ h => h) (.inl ⟨by rfl, fun W' hS => (by go_simp)⟩) H0.out ?_
  simp only [Act.put, List.setIfInBounds_toArray, List.set_cons_zero, List.set_cons_succ]
  refine Rg.take_ 8 (some 11) (.pointer (some ⟨g, 49, none⟩)) rfl rfl (by kernel_rfl) (by kernel_rfl) (by kernel_rfl) (fun _ _ _ h => h) (.inl ⟨by rfl, fun W' hS => (by go_simp)⟩) H0.out ?_
  simp only [Act.put, List.setIfInBounds_toArray, List.set_cons_zero, List.set_cons_succ]
  refine Rg.take_ 9 (some 12) (.slice (some ⟨g, 49, none⟩) 8 8) rfl rfl (by kernel_rfl) (by kernel_rfl) (by kernel_rfl) (fun _ _ _ h => h) (.inl ⟨by rfl, fun W' hS => (by go_simp)⟩) H0.out ?_
  simp only [Act.put, List.setIfInBounds_toArray, List.set_cons_zero, List.set_cons_succ]
  refine Rg.ready_one (i := 4) (by kernel_rfl) rfl rfl ?_
  refine Rg.call_at (some 7) (f := 87) (args := #[.agg (vals a).toArray]) rfl (by go_simp) ((SI.out _).mono ?_)
  rintro e w1 ⟨u, rfl, hg, ho⟩
  have H1 := Lib.hid (H0.out.still hg)
  have G1 := Lib.hid (grown_trans GD.out hg)
  have N1 := Lib.hid (N0.out.join hg (own_one (row1_own.2 ho)) GD.out.size)
  simp only [List.cons_append, List.nil_append] at N1
  refine ⟨_, rfl, H1.out, ?_⟩
  simp only [Act.put, List.setIfInBounds_toArray, List.set_cons_zero, List.set_cons_succ]
  clear hg ho N0
  refine Rg.ready_one (i := 7) (by kernel_rfl) rfl rfl ?_
  refine Rg.call_at (some 10) (f := 89) (args := #[.slice (some ⟨g, 41, none⟩) 8 8]) rfl (by go_simp) ((cloneI _ v _ (H1.out.vsl HL.out) HL.out.v).mono ?_)
  rintro e w2 ⟨x, rfl, hg, ho⟩
  have H2 := Lib.hid (H1.out.still hg)
  have G2 := Lib.hid (grown_trans G1.out hg)
  have N2 := Lib.hid (N1.out.join hg (own_one (row1_own.2 ho)) G1.out.size)
  simp only [List.cons_append, List.nil_append] at N2
  refine ⟨_, rfl, H2.out, ?_⟩
  simp only [Act.put, List.setIfInBounds_toArray, List.set_cons_zero, List.set_cons_succ]
  clear hg ho N1
  refine Rg.ready_one (i := 10) (by kernel_rfl) rfl rfl ?_
  refine Rg.call_at (some 13) (f := 90) (args := #[.slice (some ⟨g, 49, none⟩) 8 8]) rfl (by go_simp) ((cloneB _ F _ (H2.out.fsl HL.out) HL.out.f).mono ?_)
  rintro e w3 ⟨y, rfl, hg, ho⟩
  have H3 := Lib.hid (H2.out.still hg)
  have G3 := Lib.hid (grown_trans G2.out hg)
  have N3 := Lib.hid (N2.out.join hg (own_one (bool1_own.2 ho)) G2.out.size)
  simp only [List.cons_append, List.nil_append] at N3
  refine ⟨_, rfl, H3.out, ?_⟩
  simp only [Act.put, List.setIfInBounds_toArray, List.set_cons_zero, List.set_cons_succ]
  clear hg ho N2
  obtain ⟨h0, h1, h2, ab, ac, bc⟩ := own3 N3.out
  have SO : Hid (StOwn w3 w.heap.size u x y a v F) := Lib.hid (mk3 h2 h1 h0 (Item.Apart.symm bc) (Item.Apart.symm ac) (Item.Apart.symm ab))
  clear h0 h1 h2 ab ac bc N3
  obtain ⟨a1, c1, e1, _, _, _⟩ := SO.out.a
  obtain ⟨a2, c2, e2, _, _, _⟩ := SO.out.v
  obtain ⟨a3, c3, e3, _, _, _⟩ := SO.out.f
  rw [HL.out.a] at e1
  rw [HL.out.v] at e2
  rw [HL.out.f] at e3
  subst e1 e2 e3
  refine Rg.take_ 11 (some 14) (.agg #[.int .i64 k, .slice a1 8 c1, .slice a2 8 c2, .slice a3 8 c3]) rfl rfl (by kernel_rfl) (by kernel_rfl) (by kernel_rfl) (fun _ _ _ h => h) (yieldsBuild rfl _ _ rfl _ _ (by rfl) (builtPub k a1 a2 a3 8 8 8 c1 c2 c3)) H3.out ?_
  simp only [Act.put, List.setIfInBounds_toArray, List.set_cons_zero, List.set_cons_succ]
  refine Rg.ready_one (i := 12) (by kernel_rfl) rfl rfl ?_
  obtain ⟨old, ho, hz⟩ := H3.out.out
  refine storeAt none 45 _ _ rfl rfl gz #[.int .i64 k, .slice a1 8 c1, .slice a2 8 c2, .slice a3 8 c3] rfl rfl _ _ ho infoPub (by rw [hz]; rfl) (by kernel_rfl) ?_
  have B9 : (w3.setRow gz #[.int .i64 k, .slice a1 8 c1, .slice a2 8 c2, .slice a3 8 c3]).heap[gz]? = some (.cells #[.int .i64 k, .slice a1 8 c1, .slice a2 8 c2, .slice a3 8 c3] 45 (0, 0)) := setRow_heap w3 gz old _ _ (0, 0) ho
  have gr := grownRow ho #[.int .i64 k, .slice a1 8 c1, .slice a2 8 c2, .slice a3 8 c3]
  have FIN : Hid (NewSt k a v F w (.returned (.agg #[.int .i64 k, .slice a1 8 c1, .slice a2 8 c2, .slice a3 8 c3])) (w3.setRow gz #[.int .i64 k, .slice a1 8 c1, .slice a2 8 c2, .slice a3 8 c3])) := Lib.hid ⟨_, _, _, rfl, grown_own G3.out gr (fun i hi => by injection hi with hi; omega), outRow SO.out gr ho⟩
  have B9' := Lib.hid B9
  have HP9 := HeldPub.mk (H3.out.blk.kept gr (fun e => by injection e with e; exact sbNe H3.out.blk ho e)) ⟨_, B9, rfl⟩
  clear ho hz gr B9
  refine ⟨HP9, ?_⟩
  simp only [Act.put, List.setIfInBounds_toArray]
  clear HP9
  generalize w3.setRow gz #[.int .i64 k, .slice a1 8 c1, .slice a2 8 c2, .slice a3 8 c3] = w9 at *
  refine wpAnyH_done (by kernel_rfl) ?_ _
  go_wp2_with fail
  refine bodyPost_ret (v := .agg #[.int .i64 k, .slice a1 8 c1, .slice a2 8 c2, .slice a3 8 c3]) ?_ rfl FIN.out
  exact results_cell_row Try.results63 _ _ gz _ _ _ _ rfl B9'.out Try.underlying45 rfl infoPub
end Go.Proofs.Ythglkgicckodaaa
