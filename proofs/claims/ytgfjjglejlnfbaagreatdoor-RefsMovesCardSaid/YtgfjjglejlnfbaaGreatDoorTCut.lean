/- The contract of strings.Cut at a slash. -/
import Derived.Test.YtgfjjglejlnfbaaGreatDoorShelf
import Derived.Test.YtgfjjglejlnfbaaGreatDoorNameC
namespace Go.Proofs.YtgfjjglejlnfbaaGreatDoor
open Go.RowKit

/-- What stands ahead of the first slash. -/
def nameL (l : List UInt8) : List UInt8 := l.takeWhile (· != 47)
theorem idx_name : ∀ l : List UInt8, (Lib.indexByte l 47 = -1 ∧ nameL l = l) ∨ ∃ i : Nat, Lib.indexByte l 47 = (i : Int) ∧ i < l.length ∧ nameL l = l.take i
  | [] => .inl ⟨rfl, rfl⟩
  | b :: l => by
    by_cases hb : b = 47
    · subst hb
      exact .inr ⟨0, by simp [Lib.indexByte], by simp, by simp [nameL]⟩
    · have h1 : (b == 47) = false := by simpa using hb
      have h2 : nameL (b :: l) = b :: nameL l := by simp [nameL, hb]
      rcases idx_name l with ⟨h, hn⟩ | ⟨i, h, hl, hn⟩
      · exact .inl ⟨by simp [Lib.indexByte, h1, h], by rw [h2, hn]⟩
      · refine .inr ⟨i + 1, ?_, by simpa using hl, by rw [h2, hn]; rfl⟩
        simp only [Lib.indexByte, h1, h]
        have : ((i : Int) == -1) = false := by simp
        simp [this]

theorem results_three {P : Program} {fn : Func} {p q r : Tmp} (h : fn.results = #[.tmp p, .tmp q, .tmp r]) (tmps : Array Value) (w : World) (u v x : Value) (hp : tmps.getD p undef = u) (hq : tmps.getD q undef = v) (hr : tmps.getD r undef = x) :
    (results fn tmps).run P w = .ok (.tuple #[u, v, x]) w := by
  have hp' : tmps[p]?.getD undef = u := by simpa using hp
  have hq' : tmps[q]?.getD undef = v := by simpa using hq
  have hr' : tmps[r]?.getD undef = x := by simpa using hr
  simp [results, h, hp', hq', hr']

set_option maxRecDepth 100000 in
set_option maxHeartbeats 1000000 in
theorem slcut_any (s : ByteArray) (w : World) (hs : s.size ≤ 9223372036854775807) :
    Calls Tryz.prog 149 #[.string s, .string ⟨#[47]⟩] w fun e w' => (∃ a b f, e = .returned (.tuple #[.string a, .string b, .bool f]) ∧ a.data.toList = nameL s.data.toList) ∧ ∃ n, w' = w.drewN n := by
  have hsz : s.data.toList.length = s.size := by simp
  rcases idx_name s.data.toList with ⟨hi, hn⟩ | ⟨i, hi, hl, hn⟩
  · go_enter Tryz.func149, Tryz.ntmps149
    go_wp2_with (go_at_call 160; refine (Tryz.stringslite_Index_one s 47 _).mono ?_; rintro e w' ⟨rfl, rfl⟩; rw [hi])
    refine bodyPost_ret (v := .tuple #[.string s, .string ⟨#[]⟩, .bool false]) (results_three Tryz.results149 _ _ _ _ _ rfl rfl rfl) rfl ⟨⟨_, _, _, rfl, hn.symm⟩, 0, rfl⟩
  · go_enter Tryz.func149, Tryz.ntmps149
    have hd : decide ((0 : Int) ≤ i) = true := by simp
    go_wp2_with (go_at_call 160; refine (Tryz.stringslite_Index_one s 47 _).mono ?_; rintro e w' ⟨rfl, rfl⟩; rw [hi])
    have hi2 : (i : Int) + 1 ≤ s.size := by omega
    go_region
    go_wp2
    refine bodyPost_ret (v := .tuple #[.string (s.extract 0 i), .string (s.extract (i + 1) s.size), .bool true]) (results_three Tryz.results149 _ _ _ _ _ rfl rfl rfl) rfl ⟨⟨_, _, _, rfl, ?_⟩, 1, rfl⟩
    rw [hn]
    simp
set_option maxRecDepth 100000 in
set_option maxHeartbeats 1000000 in
theorem cut_any (s : ByteArray) (w : World) (hs : s.size ≤ 9223372036854775807) :
    Calls Tryz.prog 126 #[.string s, .string ⟨#[47]⟩] w fun e w' => (∃ a b f, e = .returned (.tuple #[.string a, .string b, .bool f]) ∧ a.data.toList = nameL s.data.toList) ∧ ∃ n, w' = w.drewN n := by
  go_enter Tryz.func126, Tryz.ntmps126
  go_wp2_with fail
  refine (slcut_any s w hs).mono ?_
  rintro e w' ⟨⟨a, b, f, rfl, ha⟩, n, rfl⟩
  go_wp2
  refine bodyPost_ret (v := .tuple #[.string a, .string b, .bool f]) (results_three Tryz.results126 _ _ _ _ _ rfl rfl rfl) rfl ⟨⟨_, _, _, rfl, ha⟩, n, rfl⟩
end Go.Proofs.YtgfjjglejlnfbaaGreatDoor
