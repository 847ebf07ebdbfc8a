/- What an object's bytes are like: each a byte, and not too many (seats without Decode). No function of the program is walked here. -/
import Derived.Test.YtgfjjglejlnfbaaGreatDoorEncC
namespace Go.Proofs.YtgfjjglejlnfbaaGreatDoor
open Go.RowKit

theorem results_cell_tmp {P : Program} {fn : Func} {p q : Tmp} {ty : TypeId} (h : fn.results = #[.cell p ty, .tmp q]) (tmps : Array Value) (w : World) (g : Nat) (t : TypeId) (cs : Array Value) (fr : Nat × Nat) (d : TypeDesc) (v : Value)
    (hp : tmps.getD p undef = .pointer (some ⟨g, 0, none⟩)) (hq : tmps.getD q undef = v) (hg : w.heap[g]? = some (.cells cs t fr))
    (hu : P.underlying ty = some d) (hd : (match d with | .struct _ | .array _ _ => true | _ => false) = true) (hi : (P.info? ty).map (·.size) = some cs.size) :
    (results fn tmps).run P w = .ok (.tuple #[.agg cs, v]) w := by
  have hp' : tmps[p]?.getD undef = .pointer (some ⟨g, 0, none⟩) := by simpa using hp
  have hq' : tmps[q]?.getD undef = v := by simpa using hq
  simp [results, h, hp', hq', asAddr, run_loadVar_row w g t ty cs fr d hg hu hd hi]

/-- The numbers that an object holds besides its bytes are bytes. -/
structure Fit (o : Ob) (c : Co) : Prop where
  e : ∀ e ∈ c.es, ∀ i, 0 ≤ e.id i ∧ e.id i ≤ 255
  t : ∀ i, 0 ≤ o.tree i ∧ o.tree i ≤ 255
  p : ∀ f ∈ c.ps, ∀ i, 0 ≤ f i ∧ f i ≤ 255
  n : 0 ≤ o.num ∧ o.num < 4294967296
theorem getD_ok {M : List Int} (h : ∀ x ∈ M, 0 ≤ x ∧ x ≤ 255) (i : Nat) : 0 ≤ M.getD i 0 ∧ M.getD i 0 ≤ 255 := by
  by_cases hi : i < M.length
  · have : M.getD i 0 = M[i] := by simp [hi]
    rw [this]
    exact h _ (List.getElem_mem hi)
  · have : M.getD i 0 = 0 := by simp; rw [List.getElem?_eq_none (by omega)]; rfl
    rw [this]; omega
theorem be_ok {n : Nat} {y x : Int} (h : x ∈ beBytes n y) : 0 ≤ x ∧ x ≤ 255 := by
  obtain ⟨i, -, rfl⟩ := List.mem_map.1 h
  have h1 := Int.emod_nonneg (y / 256 ^ (n - 1 - i)) (show (256 : Int) ≠ 0 by omega)
  have h2 := Int.emod_lt_of_pos (y / 256 ^ (n - 1 - i)) (show (0 : Int) < 256 by omega)
  omega
theorem bytesOf_ok {s : ByteArray} {x : Int} (h : x ∈ bytesOf s) : 0 ≤ x ∧ x ≤ 255 := by
  obtain ⟨b, -, rfl⟩ := List.mem_map.1 h
  have := b.toNat_lt
  omega
theorem idBytes_ok {f : Nat → Int} (hf : ∀ i, 0 ≤ f i ∧ f i ≤ 255) {x : Int} (h : x ∈ idBytes f) : 0 ≤ x ∧ x ≤ 255 := by
  obtain ⟨i, -, rfl⟩ := List.mem_map.1 h
  exact hf i
theorem be_len (n : Nat) (y : Int) : (beBytes n y).length = n := by simp [beBytes]
theorem id_len (f : Nat → Int) : (idBytes f).length = 32 := by simp [idBytes]
theorem right_may {o : Ob} {c : Co} (hr : rightB o c = true) : mayB o c = true := (Bool.and_eq_true_iff.1 hr).2
theorem enc_ok {o : Ob} {c : Co} (hr : rightB o c = true) (hF : Fit o c) (hb : ∀ i, i < c.nb → 0 ≤ c.bf i ∧ c.bf i ≤ 255) : ∀ x ∈ encB o c, 0 ≤ x ∧ x ≤ 255 := by
  have hm := right_may hr
  intro x hx
  by_cases h1 : o.kind = 1
  · have hx' : x = 1 ∨ x ∈ beBytes 2 c.nb ∨ x ∈ (List.range c.nb).map c.bf := by simpa [encB, h1] using hx
    rcases hx' with rfl | hx | hx
    · omega
    · exact be_ok hx
    · obtain ⟨i, hi, rfl⟩ := List.mem_map.1 hx
      exact hb i (List.mem_range.1 hi)
  by_cases h2 : o.kind = 2
  · have hmay : c.es.length ≤ 32 ∧ namedFrom ⟨#[]⟩ c.es = true := by simpa [mayB, h2] using hm
    have hx' : x = 2 ∨ x = (c.es.length : Int) ∨ ∃ e ∈ c.es, x ∈ entBytes e := by simpa [encB, h2] using hx
    rcases hx' with rfl | rfl | ⟨e, hm, hx⟩
    · omega
    · omega
    · have hsz := name_size (named_names _ _ hmay.2 e hm)
      simp only [entBytes, List.cons_append, List.mem_cons, List.mem_append] at hx
      rcases hx with rfl | hx | hx | hx
      · omega
      · exact bytesOf_ok hx
      · subst hx; split <;> omega
      · exact idBytes_ok (hF.e e hm) hx
  by_cases h3 : o.kind = 3
  · have hmay : c.ps.length ≤ 2 ∧ o.note.size ≤ 200 := by simpa [mayB, h3] using hm
    have hx' : x = 3 ∨ x ∈ idBytes o.tree ∨ x = (c.ps.length : Int) ∨ (∃ f ∈ c.ps, x ∈ idBytes f) ∨ x ∈ beBytes 4 o.num ∨ x = (o.note.size : Int) ∨ x ∈ bytesOf o.note := by simpa [encB, h3] using hx
    rcases hx' with rfl | hx | rfl | ⟨f, hf, hx⟩ | hx | rfl | hx
    · omega
    · exact idBytes_ok hF.t hx
    · omega
    · exact idBytes_ok (hF.p f hf) hx
    · exact be_ok hx
    · omega
    · exact bytesOf_ok hx
  simp [mayB, h1, h2, h3] at hm
theorem flat_len {α : Type} (f : α → List Int) (m : Nat) : ∀ l : List α, (∀ x ∈ l, (f x).length ≤ m) → (l.flatMap f).length ≤ l.length * m
  | [], _ => by simp
  | a :: l, h => by
    have h1 := h a (by simp)
    have h2 := flat_len f m l fun x hx => h x (by simp [hx])
    simp only [List.flatMap_cons, List.length_append, List.length_cons, Nat.add_mul, Nat.one_mul]
    omega
theorem enc_len {o : Ob} {c : Co} (hr : rightB o c = true) : (encB o c).length ≤ 10000 := by
  have hm := right_may hr
  by_cases h1 : o.kind = 1
  · have : c.nb ≤ 4096 := by simpa [mayB, h1] using hm
    simp [encB, h1, be_len]
    omega
  by_cases h2 : o.kind = 2
  · have hmay : c.es.length ≤ 32 ∧ namedFrom ⟨#[]⟩ c.es = true := by simpa [mayB, h2] using hm
    have hf := flat_len entBytes 58 c.es fun e he => by
      have hsz := name_size (named_names _ _ hmay.2 e he)
      simp [entBytes, bytesOf_len, id_len]
      omega
    have : (encB o c).length = (c.es.flatMap entBytes).length + 2 := by simp [encB, h2]
    have h3 : c.es.length * 58 ≤ 32 * 58 := Nat.mul_le_mul_right _ hmay.1
    omega
  by_cases h3 : o.kind = 3
  · have hmay : c.ps.length ≤ 2 ∧ o.note.size ≤ 200 := by simpa [mayB, h3] using hm
    have hf := flat_len idBytes 32 c.ps fun f _ => by rw [id_len]; omega
    have : (encB o c).length = 32 + (c.ps.flatMap idBytes).length + o.note.size + 7 := by
      simp only [encB, h3]
      simp [be_len, id_len, bytesOf_len]
      omega
    omega
  simp [mayB, h1, h2, h3] at hm
theorem equal_lists {L M : List Int} {n : Nat} {src : Nat → Int} (hM : (List.range n).map src = M) : (L.length == n && eqTo (fun i => L.getD i 0) src L.length) = true ↔ L = M := by
  rw [Bool.and_eq_true, eqTo_iff]
  constructor
  · rintro ⟨h1, h2⟩
    have h1' : L.length = n := by simpa using h1
    rw [← hM, ← range_getD L, h1']
    exact List.map_congr_left fun i hi => h2 i (by rw [h1']; exact List.mem_range.1 hi)
  · rintro rfl
    subst hM
    refine ⟨by simp, fun i hi => ?_⟩
    have hi' : i < n := by simpa using hi
    simp [hi']
theorem SrcAt.but {w w' : World} {k : IntKind} {sp : Option Addr} {n : Nat} {src : Nat → Int} {g : Nat} (h : SrcAt w k sp n src) (hk : ∀ a, sp = some a → a.block ≠ g) (hb : ∀ b, b ≠ g → w'.heap[b]? = w.heap[b]?) : SrcAt w' k sp n src := fun hl => by
  obtain ⟨b, off, hs, hc⟩ := h hl
  exact ⟨b, off, hs, fun j hj => (World.cell?_of_block (hb b (hk _ hs))).trans (hc j hj)⟩
theorem RowsAt.but {α : Type} {w w' : World} {m : Nat} {cs : α → Array Value} {sp : Option Addr} {xs : List α} {g : Nat} (h : RowsAt w m cs sp xs) (hk : ∀ a, sp = some a → a.block ≠ g) (hb : ∀ b, b ≠ g → w'.heap[b]? = w.heap[b]?) : RowsAt w' m cs sp xs := fun hl => by
  obtain ⟨b, off, hs, hc⟩ := h hl
  exact ⟨b, off, hs, fun i x hx j u hu => (World.cell?_of_block (hb b (hk _ hs))).trans (hc i x hx j u hu)⟩
/-- None of an object's lists lies in block g. -/
def Apart (o : Ob) (g : Nat) : Prop := ∀ a n cap, (o.bs = .slice (some a) n cap ∨ o.es = .slice (some a) n cap ∨ o.ps = .slice (some a) n cap) → a.block ≠ g
theorem Has.but {w w' : World} {o : Ob} {c : Co} {g : Nat} (h : Has w o c) (hA : Apart o g) (hb : ∀ b, b ≠ g → w'.heap[b]? = w.heap[b]?) : Has w' o c := by
  obtain ⟨sp, cp, h1, h2⟩ := h.b
  obtain ⟨sq, cq, h3, h4⟩ := h.e
  obtain ⟨sr, cr, h5, h6⟩ := h.p
  exact ⟨⟨sp, cp, h1, h2.but (fun a ha => hA a _ _ (.inl (ha ▸ h1))) hb⟩, ⟨sq, cq, h3, h4.but (fun a ha => hA a _ _ (.inr (.inl (ha ▸ h3)))) hb⟩, ⟨sr, cr, h5, h6.but (fun a ha => hA a _ _ (.inr (.inr (ha ▸ h5)))) hb⟩, h.bok, h.bn, h.lb, h.le, h.lp⟩
theorem setCell_but (w : World) (g j : Nat) (v : Value) : ∀ b, b ≠ g → (w.setCell ⟨g, j, none⟩ v).heap[b]? = w.heap[b]? := fun _ hb => heap_setCell_other _ _ _ _ hb
theorem setRow_but (w : World) (g : Nat) (cs : Array Value) : ∀ b, b ≠ g → (w.setRow g cs).heap[b]? = w.heap[b]? := fun b hb => setRow_other w g b cs hb
end Go.Proofs.YtgfjjglejlnfbaaGreatDoor
