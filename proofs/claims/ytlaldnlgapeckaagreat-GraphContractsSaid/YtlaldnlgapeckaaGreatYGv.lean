/- Contracts and facts. -/
import Derived.Test.YtlaldnlgapeckaaGreatYTw
import Derived.Test.YtlaldnlgapeckaaGreatYS
import Derived.Deep.CutRange
import Derived.Deep.QuietTactic
import Derived.BigQuiet
namespace Go.Proofs.YtlaldnlgapeckaaGreat
open Go.RowKit
theorem plV_mem (l : List Vx) (x : Int) (hx : x ∈ keysV l) : ∃ (p : Nat) (hp : p < l.length), plI (keysV l) x = p ∧ l[p] = getV l x := by
  induction l with
  | nil => simp [keysV] at hx
  | cons e t ih =>
    by_cases h : e.id = x
    · refine ⟨0, by simp, ?_, ?_⟩
      · exact plI_at _ _ 0 (by simp [keysV]) (fun j h hj => by omega) (by simp [keysV, h])
      · simp [getV, h]
    · have hx' : x ∈ keysV t := by
        rw [mem_keysV] at hx ⊢
        obtain ⟨v, hv, he⟩ := hx
        rcases List.mem_cons.1 hv with rfl | hv
        · exact absurd he h
        · exact ⟨v, hv, he⟩
      obtain ⟨p, hp, h1, h2⟩ := ih hx'
      refine ⟨p + 1, by simpa using hp, ?_, ?_⟩
      · unfold plI at h1 ⊢
        have hpos : posE (keysV (e :: t)) x = posE (keysV t) x + 1 := by
          unfold posE
          rw [show keysV (e :: t) = e.id :: keysV t from rfl, List.takeWhile_cons_of_pos (by simpa using h), List.length_cons]
        rw [hpos, show (keysV (e :: t)).length = (keysV t).length + 1 by simp [keysV]]
        split at h1
        · rw [if_pos (by omega)]; omega
        · omega
      · rw [List.getElem_cons_succ, h2]
        unfold getV
        rw [List.find?_cons_of_neg (by simpa using h)]
theorem plI_no (ks : List Int) (x : Int) (h : x ∉ ks) : plI ks x = -1 := plI_none ks x (fun _ hj e => h (e ▸ List.getElem_mem hj))
theorem edges_in {W : World} {a c : Value} {p : Option Addr} {n q : Nat} {g : Gr} (h : GV W (.agg #[a, .slice p n q, c]) g) (k : Nat) (hk : k < g.es.length) : ∃ eb eo, p = some ⟨eb, eo, none⟩ ∧ ∀ W', Below W.heap.size W W' → EdAt W' eb (eo + k * 6) g.es[k] := by
  obtain ⟨eb, eo, e, h2⟩ := edges_at h (fun e => by rw [e] at hk; simp at hk)
  exact ⟨eb, eo, e, fun W' B => h2 k hk W' B⟩
theorem verts_in {W : World} {b c : Value} {p : Option Addr} {n q : Nat} {g : Gr} (h : GV W (.agg #[.slice p n q, b, c]) g) (k : Nat) (hk : k < g.vs.length) : ∃ eb eo, p = some ⟨eb, eo, none⟩ ∧ ∀ W', Below W.heap.size W W' → W'.cell? ⟨eb, eo + k * 2, none⟩ = some (.int .i64 g.vs[k].id) ∧ W'.cell? ⟨eb, eo + k * 2 + 1, none⟩ = some (.int .i64 g.vs[k].side) := by
  obtain ⟨a', b', c', he, h1, _, _⟩ := h
  injection he with he
  simp only [Array.mk.injEq, List.cons.injEq] at he
  obtain ⟨he, _⟩ := he
  subst he
  obtain ⟨b, o, c2, e1, _, e2, e3⟩ := h1.own (fun e => by rw [e] at hk; simp at hk)
  injection e1 with e1 _ _
  exact ⟨b, o, e1, fun W' B => (e3.below e2 B) k _ (List.getElem?_eq_getElem hk)⟩
theorem GV.dl {W : World} {a b c : Value} {g : Gr} (h : GV W (.agg #[a, b, c]) g) : DL W c g.ds := by
  obtain ⟨a', b', c', he, _, _, h3⟩ := h
  injection he with he
  simp only [Array.mk.injEq, List.cons.injEq] at he
  rw [he.2.2.1]; exact h3
end Go.Proofs.YtlaldnlgapeckaaGreat
