/- The nodes of a file in memory, as they are laid. No function of the program is walked here. -/
import Derived.Test.YthnoiohganknnabDoorPaT
namespace Go.Proofs.YthnoiohganknnabDoor
open Go.RowKit

/-- A node in memory. -/
structure NdM where
  k : Int
  x : ByteArray
  n : Int
  ks : Option Addr
  kn : Nat
  kc : Nat
  a : Int
  f : Int
  t : Int
def NdM.cells (m : NdM) : Array Value := #[.int .i64 m.k, .string m.x, .int .i64 m.n, .slice m.ks m.kn m.kc, .int .i64 m.a, .int .i64 m.f, .int .i64 m.t]
def intC (n : Nat) : Array Value := #[.int .i64 n]
theorem elI : El 39 3 1 intC := by
  have h : (Tryd.prog.info? 3).map (fun i => (i.zero, i.size, i.bytes)) = some (some (.int .i64 0), 1, 8) := by kernel_rfl
  refine ⟨Tryd.underlying39, ?_, fun _ => rfl, fun _ => by simp [intC, Value.oneCell'], by omega⟩
  cases hi : Tryd.prog.info? 3 with
  | none => rw [hi] at h; cases h
  | some i =>
    rw [hi] at h
    simp only [Option.map_some, Option.some.injEq, Prod.mk.injEq] at h
    exact ⟨i, _, rfl, h.1, h.2.1, by omega, rfl⟩
theorem elN : El 29 41 7 NdM.cells := by
  have h : (Tryd.prog.info? 41).map (fun i => (i.zero, i.size, i.bytes)) = some (some (.agg (NdM.cells ⟨0, ⟨#[]⟩, 0, none, 0, 0, 0, 0, 0⟩)), 7, 80) := by kernel_rfl
  refine ⟨Tryd.underlying29, ?_, fun _ => rfl, fun _ => by simp [NdM.cells, Value.oneCell'], by omega⟩
  cases hi : Tryd.prog.info? 41 with
  | none => rw [hi] at h; cases h
  | some i =>
    rw [hi] at h
    simp only [Option.map_some, Option.some.injEq, Prod.mk.injEq] at h
    exact ⟨i, _, rfl, h.1, h.2.1, by omega, rfl⟩
abbrev OwnI := OwnG 3 1 intC
abbrev OwnN := OwnG 41 7 NdM.cells
theorem flatN_set : ∀ (xs : List NdM) (i : Nat) (m : NdM) (ks : Option Addr) (kn kc : Nat), xs[i]? = some m → (flatG NdM.cells xs).set (i * 7 + 3) (.slice ks kn kc) = flatG NdM.cells (xs.set i ⟨m.k, m.x, m.n, ks, kn, kc, m.a, m.f, m.t⟩)
  | [], i, m, _, _, _, h => by simp at h
  | a :: r, 0, m, _, _, _, h => by
    obtain rfl : a = m := by simpa using h
    rfl
  | a :: r, i + 1, m, ks, kn, kc, h => by
    have ih := flatN_set r i m ks kn kc (by simpa using h)
    unfold flatG at ih ⊢
    rw [List.flatMap_cons, List.set_cons_succ, List.flatMap_cons, ← ih]
    have hl : a.cells.toList.length = 7 := rfl
    rw [List.set_append_right _ _ (by omega), hl]
    congr 2
    omega
theorem OwnN.set {B : Nat} {w : World} {sp : Option Addr} {n cap : Nat} {xs : List NdM} (h : OwnN B w (.slice sp n cap) xs) {i : Nat} {m : NdM} (hi : xs[i]? = some m) (ks : Option Addr) (kn kc : Nat) :
    ∃ g, sp = some ⟨g, 0, none⟩ ∧ B ≤ g ∧ g < w.heap.size ∧ w.cell? ⟨g, i * 7 + 3, none⟩ = some (.slice m.ks m.kn m.kc) ∧ w.frozen? ⟨g, i * 7 + 3, none⟩ = false ∧ OwnN B (w.setCell ⟨g, i * 7 + 3, none⟩ (.slice ks kn kc)) (.slice sp n cap) (xs.set i ⟨m.k, m.x, m.n, ks, kn, kc, m.a, m.f, m.t⟩) := by
  have hil := (List.getElem?_eq_some_iff.1 hi).1
  rcases h.2 with ⟨e, h0⟩ | ⟨g, cap', cur, e, h1, h2, h3, h4, h5, h6⟩
  · omega
  · injection e with e1 e2 e3
    subst e1 e2 e3
    refine ⟨g, rfl, h1, lt_of_row h2, ?_, frozen_of_row _ _ _ _ _ h2, ?_, .inr ⟨g, cap, cur.setIfInBounds (i * 7 + 3) (.slice ks kn kc), by rw [List.length_set], h1, heap_setCell_same _ _ _ _ _ _ h2, by rw [List.length_set]; exact h3, h4, by rw [Array.size_setIfInBounds]; exact h5, ?_⟩⟩
    · rw [cell_of_row _ _ _ _ _ _ h2, ← Array.getElem?_toList]
      have : (cur.toList.take (xs.length * 7))[i * 7 + 3]? = (flatG NdM.cells xs)[i * 7 + 3]? := by rw [h6]
      rw [List.getElem?_take, if_pos (by omega), flatG_at elN xs i 3 m hi (by omega)] at this
      rw [this]
      rfl
    · rw [List.length_set, flatG_length elN, List.length_set]
    · rw [List.length_set, Array.toList_setIfInBounds, List.take_set, h6]
      exact flatN_set xs i m ks kn kc hi
/-- Nodes as they stand in memory, their kids in these blocks. -/
def Rep (w : World) (S : Nat → Prop) (N : List NdM) (L : List Nd) : Prop := N.length = L.length ∧ ∀ (i : Nat) (m : NdM) (d : Nd), N[i]? = some m → L[i]? = some d →
  (m.k = d.kind ∧ m.x = d.text ∧ m.n = d.num ∧ m.a = d.pos ∧ m.f = d.frm ∧ m.t = d.to) ∧ m.kn = d.kids.length ∧ RowsAt w 1 intC m.ks d.kids ∧ (m.ks = none → m.kn = 0 ∧ m.kc = 0) ∧ ∀ q, m.ks = some q → S q.block
theorem Rep.keep {w w' : World} {S S' : Nat → Prop} {N : List NdM} {L : List Nd} (h : Rep w S N L) (hS : ∀ k, S k → S' k) (hh : ∀ k, S k → w'.heap[k]? = w.heap[k]?) : Rep w' S' N L :=
  ⟨h.1, fun i m d h1 h2 => by
    obtain ⟨a, b, c, e, f⟩ := h.2 i m d h1 h2
    exact ⟨a, b, c.stay fun q hq => hh _ (f q hq), e, fun q hq => hS _ (f q hq)⟩⟩
theorem Rep.snoc {w : World} {S : Nat → Prop} {N : List NdM} {L : List Nd} {m : NdM} {d : Nd} (h : Rep w S N L) (h1 : (m.k = d.kind ∧ m.x = d.text ∧ m.n = d.num ∧ m.a = d.pos ∧ m.f = d.frm ∧ m.t = d.to) ∧ m.kn = d.kids.length ∧ RowsAt w 1 intC m.ks d.kids ∧ (m.ks = none → m.kn = 0 ∧ m.kc = 0) ∧ ∀ q, m.ks = some q → S q.block) : Rep w S (N ++ [m]) (L ++ [d]) :=
  ⟨by simp [h.1], fun i m' d' e1 e2 => by
    by_cases hi : i < N.length
    · rw [List.getElem?_append_left hi] at e1
      rw [List.getElem?_append_left (by rw [← h.1]; exact hi)] at e2
      exact h.2 i m' d' e1 e2
    · rw [List.getElem?_append_right (by omega)] at e1
      rw [List.getElem?_append_right (by rw [← h.1]; omega), ← h.1] at e2
      have h0 : i - N.length = 0 := by have := (List.getElem?_eq_some_iff.1 e1).1; simp at this; omega
      rw [h0] at e1 e2
      obtain rfl : m = m' := by simpa using e1
      obtain rfl : d = d' := by simpa using e2
      exact h1⟩
/-- All but the tree's variable and its own row of nodes is as it was. -/
structure Oth (gt : Nat) (v : Value) (w w' : World) : Prop where
  os : w'.os = w.os
  tape : w'.tape = w.tape
  output : w'.output = w.output
  size : w.heap.size ≤ w'.heap.size
  block : ∀ j, j < w.heap.size → j ≠ gt → v.ownBlock ≠ some j → w'.heap[j]? = w.heap[j]?
/-- The tree that is being laid. -/
structure Lay (B gt gl : Nat) (w : World) (v : Value) (S : Nat → Prop) (L : List Nd) : Prop where
  rt : w.heap[gt]? = some (.cells #[v] 31 (0, 0))
  rl : w.heap[gl]? = some (.cells #[.func (Fn.func 34) #[] #[.pointer (some ⟨gt, 0, none⟩), .pointer (some ⟨gl, 0, none⟩)]] 76 (0, 0))
  ne : gt ≠ gl ∧ B ≤ gt ∧ B ≤ gl
  ex : ∃ N : List NdM, OwnN B w v N ∧ Rep w S N L ∧ ∀ j, S j → B ≤ j ∧ j < w.heap.size ∧ j ≠ gt ∧ j ≠ gl ∧ v.ownBlock ≠ some j
section
variable {B gt gl : Nat} {w w' : World} {v : Value} {S : Nat → Prop} {L : List Nd}
theorem Lay.shape (h : Lay B gt gl w v S L) : ∃ s c, v = .slice s L.length c := by
  obtain ⟨N, h1, h2, -⟩ := h.ex
  obtain ⟨s, c, e⟩ := OwnG.shape h1
  exact ⟨s, c, by rw [e, h2.1]⟩
theorem Lay.own (h : Lay B gt gl w v S L) {q : Nat} (hq : v.ownBlock = some q) : B ≤ q ∧ q < w.heap.size ∧ q ≠ gt ∧ q ≠ gl := by
  obtain ⟨N, h1, -⟩ := h.ex
  refine ⟨(h1.lt hq).1, (h1.lt hq).2, fun e => ?_, fun e => ?_⟩
  · exact h1.ne h.rt (by decide) (by rw [hq, e])
  · exact h1.ne h.rl (by decide) (by rw [hq, e])
theorem Lay.below (h : Lay B gt gl w v S L) (hb : Below w.heap.size w w') : Lay B gt gl w' v S L := by
  obtain ⟨N, h1, h2, h3⟩ := h.ex
  refine ⟨(hb.block _ (lt_of_row h.rt)).trans h.rt, (hb.block _ (lt_of_row h.rl)).trans h.rl, h.ne, N, h1.below hb, h2.keep (fun _ h => h) fun k hk => hb.block k (h3 k hk).2.1, fun j hj => ?_⟩
  obtain ⟨a, b, c, d, e⟩ := h3 j hj
  exact ⟨a, Nat.lt_of_lt_of_le b hb.size, c, d, e⟩
/-- A node more, its kids not yet known. -/
theorem Lay.one (h : Lay B gt gl w v S L) (m : NdM) (hm : m.ks = none ∧ m.kn = 0 ∧ m.kc = 0) (hl : L.length + 1 ≤ 1000000) :
    ∃ s0 n0 c0 s1 c1 W2, v = .slice s0 n0 c0 ∧ w.cell? ⟨gt, 0, none⟩ = some v ∧ (w.alloc (.cells m.cells 41)).cell? ⟨gt, 0, none⟩ = some v ∧
      (Builtin.append_ #[29, 29] 29 #[v, .slice (some ⟨w.heap.size, 0, none⟩) 1 1]).run Tryd.prog (w.alloc (.cells m.cells 41)) = .ok (.slice s1 (L.length + 1) c1) W2 ∧ Below B w W2 ∧ W2.cell? ⟨gt, 0, none⟩ = some v ∧ W2.frozen? ⟨gt, 0, none⟩ = false ∧
      Lay B gt gl (W2.setCell ⟨gt, 0, none⟩ (.slice s1 (L.length + 1) c1)) (.slice s1 (L.length + 1) c1) S (L ++ [⟨m.k, m.x, m.n, [], m.a, m.f, m.t⟩]) ∧ Oth gt v w (W2.setCell ⟨gt, 0, none⟩ (.slice s1 (L.length + 1) c1)) ∧
      ((Value.slice s1 (L.length + 1) c1).ownBlock = v.ownBlock ∨ ∃ q, (Value.slice s1 (L.length + 1) c1).ownBlock = some q ∧ w.heap.size ≤ q) := by
  have hgt := lt_of_row h.rt
  have hgl := lt_of_row h.rl
  have hown : ∀ q, v.ownBlock = some q → B ≤ q ∧ q < w.heap.size ∧ q ≠ gt ∧ q ≠ gl := fun q hq => h.own hq
  obtain ⟨rt, rl, ⟨hne, hB1, hB2⟩, N, h1, h2, h3⟩ := h
  obtain ⟨s0, c0, rfl⟩ := OwnG.shape h1
  have hb : Below w.heap.size w (w.alloc (.cells m.cells 41)) := (Below.refl _ _).alloc (Nat.le_refl _) _
  have hrow := heap_alloc_new w (.cells m.cells 41)
  have hsz : (w.alloc (.cells m.cells 41)).heap.size = w.heap.size + 1 := by simp
  generalize w.alloc (.cells m.cells 41) = X at hb hrow hsz ⊢
  have k1 : OwnN B X (.slice s0 N.length c0) N := h1.below hb
  obtain ⟨v', W2, hrun, ho, hg, hq⟩ := own_run (ys := [m]) (cap := 1) elN 29 k1 (fun e => by cases e) (oneG_rows hrow) (by rw [h2.1]; exact hl) (by omega)
  obtain ⟨s1, c1, rfl⟩ := OwnG.shape ho
  have e1 : (N ++ [m]).length = L.length + 1 := by simp [h2.1]
  rw [e1] at hrun ho hq
  have hle := hg.size
  have hk : ∀ j, j < w.heap.size → (Value.slice s0 N.length c0).ownBlock ≠ some j → W2.heap[j]? = w.heap[j]? := fun j hj hn => (hg.block j (by omega) fun e => hn e.symm).trans (hb.block j hj)
  have nt : (Value.slice s0 N.length c0).ownBlock ≠ some gt := fun e => (hown _ e).2.2.1 rfl
  have nl : (Value.slice s0 N.length c0).ownBlock ≠ some gl := fun e => (hown _ e).2.2.2 rfl
  have hnew : ∀ j, j < w.heap.size → (Value.slice s0 N.length c0).ownBlock ≠ some j → (Value.slice s1 (L.length + 1) c1).ownBlock ≠ some j := fun j hj hn e => by
    rcases hq with hq | hq
    · exact hn (hq.symm.trans e)
    · rw [hq] at e
      injection e with e
      omega
  have rt2 := (hk gt hgt nt).trans rt
  have rl2 := (hk gl hgl nl).trans rl
  have hBW : Below B w W2 := ⟨hg.os.trans hb.os, hg.tape.trans hb.tape, hg.output.trans hb.output, by omega, fun j hj => hk j (by omega) fun e => by have := (hown _ e).1; omega⟩
  refine ⟨s0, _, c0, s1, c1, W2, rfl, (cell_of_row _ _ _ _ _ _ rt).trans rfl, (cell_of_row _ _ _ _ _ _ ((hb.block _ hgt).trans rt)).trans rfl, hrun, hBW, (cell_of_row _ _ _ _ _ _ rt2).trans rfl, frozen_of_row _ _ _ _ _ rt2, ⟨heap_setCell_same _ _ 0 _ _ _ rt2, (heap_setCell_other _ _ _ _ (fun e => hne e.symm)).trans rl2, ⟨hne, hB1, hB2⟩, N ++ [m], ?_, ?_, ?_⟩, ?_, ?_⟩
  · exact ho.keep fun q hq' => heap_setCell_other _ _ _ _ fun e => hnew gt hgt nt (by rw [hq', show q = gt from e])
  · refine Rep.snoc (h2.keep (fun _ h => h) fun j hj => (heap_setCell_other _ _ _ _ (h3 j hj).2.2.1).trans (hk j (h3 j hj).2.1 (h3 j hj).2.2.2.2)) ⟨⟨rfl, rfl, rfl, rfl, rfl, rfl⟩, hm.2.1, RowsAt.none, fun _ => hm.2, fun q hq' => ?_⟩
    rw [hm.1] at hq'
    cases hq'
  · intro j hj
    obtain ⟨a, b, c, d, e⟩ := h3 j hj
    have hs2 : (W2.setCell ⟨gt, 0, none⟩ (.slice s1 (L.length + 1) c1)).heap.size = W2.heap.size := by simp
    exact ⟨a, by omega, c, d, hnew j b e⟩
  · have hq2 := (Below.refl 0 W2).setCell (p := ⟨gt, 0, none⟩) (Nat.zero_le _) (.slice s1 (L.length + 1) c1)
    exact ⟨hq2.os.trans hBW.os, hq2.tape.trans hBW.tape, hq2.output.trans hBW.output, Nat.le_trans hBW.size hq2.size, fun j hj hjt hjv => (heap_setCell_other _ _ _ _ hjt).trans (hk j hj hjv)⟩
  · rcases hq with hq | hq
    · exact .inl hq
    · exact .inr ⟨_, hq, by omega⟩
theorem Oth.trans {v1 : Value} {w1 w2 : World} (h : Oth gt v w w1) (hv : v1.ownBlock = v.ownBlock ∨ ∃ q, v1.ownBlock = some q ∧ w.heap.size ≤ q) (h' : Oth gt v1 w1 w2) : Oth gt v w w2 :=
  ⟨h'.os.trans h.os, h'.tape.trans h.tape, h'.output.trans h.output, Nat.le_trans h.size h'.size, fun j hj hjt hjv => (h'.block j (Nat.lt_of_lt_of_le hj h.size) hjt (by
    rcases hv with hv | ⟨q, hv, hq⟩
    · rw [hv]; exact hjv
    · rw [hv]; intro e; injection e with e; omega)).trans (h.block j hj hjt hjv)⟩
/-- The row of nodes lies apart from a row of numbers. -/
theorem Lay.apart {C : Nat} {u : Value} {ks : List Nat} (h : Lay B gt gl w v S L) (hu : OwnI C w u ks) : (∀ q, u.ownBlock = some q → q ≠ gt ∧ q ≠ gl ∧ v.ownBlock ≠ some q) := fun q hq => by
  refine ⟨fun e => hu.ne h.rt (by decide) (by rw [hq, e]), fun e => hu.ne h.rl (by decide) (by rw [hq, e]), fun e => ?_⟩
  obtain ⟨N, h1, -⟩ := h.ex
  rcases h1.2 with ⟨rfl, h0⟩ | ⟨g', cap, cur, rfl, -, h2, -⟩
  · cases e
  · have e1 : g' = q := by injection e
    exact hu.ne h2 (by decide) (by rw [hq, e1])
/-- A block that the tree does not lean on is written, or made. -/
theorem Lay.beside {C : Nat} {u : Value} {ks : List Nat} (h : Lay B gt gl w v S L) (hu : OwnI C w u ks) (hS : ∀ j, S j → u.ownBlock ≠ some j) (hg : w.grownBy w' u.ownBlock) : Lay B gt gl w' v S L := by
  have ha := h.apart hu
  obtain ⟨N, h1, h2, h3⟩ := h.ex
  have hk : ∀ j, j < w.heap.size → u.ownBlock ≠ some j → w'.heap[j]? = w.heap[j]? := fun j hj hn => hg.block j hj fun e => hn e.symm
  refine ⟨(hk _ (lt_of_row h.rt) fun e => (ha _ e).1 rfl).trans h.rt, (hk _ (lt_of_row h.rl) fun e => (ha _ e).2.1 rfl).trans h.rl, h.ne, N, h1.keep fun q hq => hk q (h1.lt hq).2 fun e => (ha _ e).2.2 hq, h2.keep (fun _ h => h) fun j hj => hk j (h3 j hj).2.1 (hS j hj), fun j hj => ?_⟩
  obtain ⟨a, b, c, d, e⟩ := h3 j hj
  exact ⟨a, Nat.lt_of_lt_of_le b hg.size, c, d, e⟩
/-- The kids of a node are laid. -/
theorem Lay.kids {C : Nat} {u : Value} {ks : List Nat} {d : Nd} {R : List Nd} (h : Lay B gt gl w v S (L ++ d :: R)) (hu : OwnI C w u ks) (hC : B ≤ C) :
    ∃ g su cu n c old, v = .slice (some ⟨g, 0, none⟩) n c ∧ L.length < n ∧ u = .slice su ks.length cu ∧ w.cell? ⟨g, L.length * 7 + 3, none⟩ = some old ∧ w.frozen? ⟨g, L.length * 7 + 3, none⟩ = false ∧
      Lay B gt gl (w.setCell ⟨g, L.length * 7 + 3, none⟩ u) v (fun j => S j ∨ u.ownBlock = some j) (L ++ ⟨d.kind, d.text, d.num, ks, d.pos, d.frm, d.to⟩ :: R) ∧ Oth gt v w (w.setCell ⟨g, L.length * 7 + 3, none⟩ u) := by
  have ha := h.apart hu
  have hown : ∀ q, v.ownBlock = some q → B ≤ q ∧ q < w.heap.size ∧ q ≠ gt ∧ q ≠ gl := fun q hq => h.own hq
  obtain ⟨rt, rl, hne, N, h1, h2, h3⟩ := h
  obtain ⟨s, c, rfl⟩ := OwnG.shape h1
  obtain ⟨su, cu, rfl, hru, hnu, -⟩ := OwnG.rows elI hu
  have hlen : N.length = L.length + (R.length + 1) := by rw [h2.1]; simp
  obtain ⟨m, hm⟩ : ∃ m, N[L.length]? = some m := ⟨_, List.getElem?_eq_getElem (by omega)⟩
  obtain ⟨g, rfl, hg1, hg2, hcell, hfz, hset⟩ := OwnN.set h1 hm su ks.length cu
  obtain ⟨hf, -⟩ := h2.2 L.length m d hm (by simp)
  have hgo := hown g rfl
  have hoth : ∀ j, j ≠ g → (w.setCell ⟨g, L.length * 7 + 3, none⟩ (.slice su ks.length cu)).heap[j]? = w.heap[j]? := fun j hj => heap_setCell_other _ _ _ _ hj
  have hsz : (w.setCell ⟨g, L.length * 7 + 3, none⟩ (.slice su ks.length cu)).heap.size = w.heap.size := by simp
  have hug : (Value.slice su ks.length cu).ownBlock ≠ some g := fun e => (ha _ e).2.2 rfl
  refine ⟨g, su, cu, _, c, _, rfl, by omega, rfl, hcell, hfz, ⟨(hoth _ fun e => hgo.2.2.1 e.symm).trans rt, (hoth _ fun e => hgo.2.2.2 e.symm).trans rl, hne, _, hset, ⟨by simp [hlen], fun i m' d' e1 e2 => ?_⟩, ?_⟩, ?_⟩
  · by_cases hi : i = L.length
    · subst hi
      rw [List.getElem?_set_self (by omega)] at e1
      injection e1 with e1
      subst e1
      obtain rfl : _ = d' := by simpa using e2
      refine ⟨hf, rfl, hru.stay fun q hq => hoth _ fun e => ?_, hnu, fun q hq => .inr ?_⟩
      · exact hug (by rw [hq, ← e]; rfl)
      · have hq' : su = some q := hq
        rw [hq']
        rfl
    · rw [List.getElem?_set_ne (fun e => hi e.symm)] at e1
      have e3 : (L ++ d :: R)[i]? = some d' := by
        by_cases hlt : i < L.length
        · rw [List.getElem?_append_left hlt] at e2 ⊢
          exact e2
        · rw [List.getElem?_append_right (by omega)] at e2 ⊢
          obtain ⟨k, hk⟩ : ∃ k, i - L.length = k + 1 := ⟨i - L.length - 1, by omega⟩
          rw [hk] at e2 ⊢
          simpa using e2
      obtain ⟨q1, q2, q3, q4, q5⟩ := h2.2 i m' d' e1 e3
      exact ⟨q1, q2, q3.stay fun q hq => hoth _ fun e => (h3 _ (q5 q hq)).2.2.2.2 (by rw [e]; rfl), q4, fun q hq => .inl (q5 q hq)⟩
  · rintro j (hj | hj)
    · obtain ⟨a, b, c, d, e⟩ := h3 j hj
      exact ⟨a, by rw [hsz]; exact b, c, d, e⟩
    · have h5 := ha j hj
      have h6 := hu.lt hj
      exact ⟨by omega, by rw [hsz]; exact h6.2, h5.1, h5.2.1, h5.2.2⟩
  · have hq2 := (Below.refl 0 w).setCell (p := ⟨g, L.length * 7 + 3, none⟩) (Nat.zero_le _) (.slice su ks.length cu)
    exact ⟨hq2.os, hq2.tape, hq2.output, hq2.size, fun j hj hjt hjv => hoth j fun e => hjv (by rw [e]; rfl)⟩
end
end Go.Proofs.YthnoiohganknnabDoor
