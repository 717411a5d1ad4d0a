/- The reference's six and numbers. -/
import Derived.Test.YtlaldnlgapeckaaGreatZEc
import Derived.Test.YtlaldnlgapeckaaGreatZW
import Derived.Test.YtlaldnlgapeckaaGreatYQ
import Derived.Deep.CutRange
set_option linter.unusedSimpArgs false
set_option maxRecDepth 100000
set_option maxHeartbeats 4000000
namespace Go.Proofs.YtlaldnlgapeckaaGreat
open Go.RowKit
theorem DL.cellAt {w : World} {a : Option Addr} {n k : Nat} {l : List Int} (h : DL w (.slice a n k) l) (j : Nat) (hj : j < l.length) : ∃ b o, a = some ⟨b, o, none⟩ ∧ ∀ W, Below w.heap.size w W → W.cell? ⟨b, o + j, none⟩ = some (.int .i64 l[j]) := by
 obtain ⟨b, o, c, he, _, h2, h3⟩ := h.own (fun e => by rw [e] at hj; simp at hj)
 injection he with he
 exact ⟨b, o, he, fun W B => (h3.below h2 B) j _ (List.getElem?_eq_getElem hj)⟩
theorem six_any (u : Ed) (w : World) : Calls Tryz.prog 67 #[.agg (edCells u)] w fun e w' => ∃ v, e = .returned v ∧ OwnI w' w.heap.size v (edN u) ∧ Below w.heap.size w w' := by
 obtain ⟨w1, hw1⟩ : ∃ w1, w1 = w.alloc (.cells (edCells u) 31) := ⟨_, rfl⟩
 have hB := Hd (show Below w.heap.size w w1 by rw [hw1]; exact (Below.refl _ w).alloc (Nat.le_refl _) _)
 have hb := Hd (show EdAt w1 w.heap.size 0 u by rw [hw1]; exact EdAt.box w u 31)
 have hz := Hd (show w1.heap.size = w.heap.size + 1 by rw [hw1]; simp)
 have hfin : Hid (∀ d : Int, d = (if u.dir = true then 1 else 0) → OwnI (w1.alloc (.cells #[.int .i64 u.id, .int .i64 u.src, .int .i64 u.dst, .int .i64 d, .int .i64 u.wt, .int .i64 u.cap] 3)) w.heap.size (.slice (some ⟨w1.heap.size, 0, none⟩) 6 6) (edN u) ∧ Below w.heap.size w (w1.alloc (.cells #[.int .i64 u.id, .int .i64 u.src, .int .i64 u.dst, .int .i64 d, .int .i64 u.wt, .int .i64 u.cap] 3))) := fun d hd => by
  have := hz.out
  refine ⟨?_, hB.out.alloc (by omega) _⟩
  unfold OwnI edN
  rw [← hd]
  exact ⟨rfl, .inr ⟨w1.heap.size, 6, _, rfl, by omega, heap_alloc_new w1 _, Nat.le_refl _, by decide, rfl, rfl⟩⟩
 replace hw1 := Hd hw1
 obtain ⟨q0, q1, q2, q3, q4, q5⟩ := hb.out
 rw [Nat.zero_add] at q1 q2 q3 q4 q5
 unfold edCells
 cases hd : u.dir with
 | false =>
  have hF := Hd (hfin.out 0 (by rw [hd]; rfl))
  rw [hd] at q3
  unfold edCells at hw1
  rw [hd] at hw1
  clear hfin hd hb
  go_enter Tryz.func67, Tryz.ntmps67
  go_upto_region 2 with (fail)
  rw [← hw1.out]
  go_wp2_with fail
  go_ret
  exact ⟨_, rfl, hF.out.1, hF.out.2⟩
 | true =>
  have hF := Hd (hfin.out 1 (by rw [hd]; rfl))
  rw [hd] at q3
  unfold edCells at hw1
  rw [hd] at hw1
  clear hfin hd hb
  go_enter Tryz.func67, Tryz.ntmps67
  go_upto_region 2 with (fail)
  rw [← hw1.out]
  go_wp2_with fail
  go_ret
  exact ⟨_, rfl, hF.out.1, hF.out.2⟩
def RPutPost (x : Int) (w : World) (e : Ending) (w' : World) : Prop :=
 (if inB x (-4611686018427387903) 4611686018427387903 = true then e = .returned (.tuple #[.string ⟨(putL x).toArray⟩, .int .i64 0]) else e = .returned (.tuple #[.string ⟨#[]⟩, .int .i64 10])) ∧ Below w.heap.size w w'
theorem RPutInt_all (x : Int) (w : World) (h : inI x) : Calls Tryz.prog 91 #[.int .i64 x] w (RPutPost x w) := by
 by_cases hh : inB x (-4611686018427387903) 4611686018427387903 = true
 · have h' := (inB_iff _ _ _).1 hh
   refine (RPutInt_any x w h'.1 h'.2).mono ?_
   rintro e w' ⟨rfl, hb⟩
   exact ⟨by rw [if_pos hh], hb⟩
 · have h' : ¬ (-4611686018427387903 ≤ x ∧ x ≤ 4611686018427387903) := fun q => hh ((inB_iff _ _ _).2 q)
   refine (RPutInt_bad x w (by omega) h.1 h.2).mono ?_
   rintro e w' ⟨rfl, hb⟩
   exact ⟨by rw [if_neg hh], hb⟩
def NumsPost (l : List Int) (w : World) (e : Ending) (w' : World) : Prop := e = .returned (.tuple #[.string ⟨(if okP l = true then l.flatMap putL else []).toArray⟩, .bool (okP l)]) ∧ Below w.heap.size w w'
theorem numbersR_any (v : Value) (l : List Int) (w : World) (hv : DL w v l) (hr : ∀ n ∈ l, inI n) (hn : l.length ≤ 1000000) : Calls Tryz.prog 68 #[v] w (NumsPost l w) := by
 obtain ⟨a, c, rfl⟩ := hv.shape
 have cellD := Hd (fun (k : Nat) (hk : k < l.length) => hv.cellAt k hk)
 have hrh := Hd hr
 have hbad : Hid (∀ W, okP l = false → Below w.heap.size w W → NumsPost l w (.returned (.tuple #[.string ⟨#[]⟩, .bool false])) W) := fun W e B => by unfold NumsPost; rw [e]; exact ⟨rfl, B⟩
 have hgood : Hid (∀ W, okP l = true → Below w.heap.size w W → NumsPost l w (.returned (.tuple #[.string ⟨(l.flatMap putL).toArray⟩, .bool true])) W) := fun W e B => by unfold NumsPost; rw [e]; exact ⟨rfl, B⟩
 have hlen := Hd (flat_len l putL 9 (fun x => (putL_len x).2))
 obtain ⟨N, hN⟩ : ∃ N, Hid (N = l.length) := ⟨_, rfl⟩
 rw [← hN.out] at hn ⊢
 clear hv hr
 go_enter Tryz.func68, Tryz.ntmps68
 go_wp2_with fail
 go_loopw [4, 5] (fun o i wr => ∃ (k : Nat) (S : List UInt8), k ≤ N ∧ o = .string ⟨S.toArray⟩ ∧ i = .int .i64 k ∧ Hid (S = (l.take k).flatMap putL) ∧ Hid (okP (l.take k) = true) ∧ Hid (Below w.heap.size w wr)) (fun _ i _ => N - (intOf i).toNat)
 case atStart => exact ⟨0, [], Nat.zero_le _, rfl, rfl, by show _ = _; simp, by show _ = _; simp [okP], Below.refl _ _⟩
 case round =>
  obtain ⟨k, S, hk, rfl, rfl, hS, hok, hB⟩ := hrel
  by_cases hlt : k < N
  · have i1 : (k : Int) < (N : Int) := by omega
    have hkl : k < l.length := by rw [← hN.out]; exact hlt
    obtain ⟨b, ov, rfl, hc⟩ := cellD.out k hkl
    have c1 := hc wr hB.out
    have hxi : inI l[k] := hrh.out _ (List.getElem_mem hkl)
    have htk : l.take (k + 1) = l.take k ++ [l[k]] := by rw [List.take_append_getElem]
    have hSl : S.length ≤ 9 * k := by rw [hS.out]; exact hlen.out k
    obtain ⟨x, hx⟩ : ∃ x, Hid (x = l[k]) := ⟨l[k], Hd rfl⟩
    rw [← hx.out] at c1 hxi htk
    have kc := Hd (RPutInt_all x wr hxi)
    have hpl := (putL_len x).2
    have htk := Hd htk
    unfold RPutPost at kc
    cases hb : inB x (-4611686018427387903) 4611686018427387903 with
    | false =>
     have hF : Hid (okP l = false) := by
      show _ = _
      cases ho : okP l with
      | false => rfl
      | true =>
       have := (okP_iff l).1 ho x (by rw [hx.out]; exact List.getElem_mem hkl)
       have := (inB_iff x (-4611686018427387903) 4611686018427387903).2 this
       rw [hb] at this; cases this
     rw [hb] at kc
     clear hb hc hx hkl hlt
     go_wp2_with fail
     with_reducible refine kc.out.mono ?_
     rintro e w2 ⟨rfl, B2⟩
     have hF2 := Hd (hbad.out w2 hF.out (hB.out.trans (B2.mono hB.out.size)))
     clear B2
     go_wp2_with fail
     go_ret2
     exact hF2.out
    | true =>
     rw [hb] at kc
     have hb' := Hd hb
     clear hb hc hx hkl
     have hsz : (⟨S.toArray⟩ : ByteArray).size ≤ 9 * k := by simpa [ByteArray.size] using hSl
     have hsp : (⟨(putL x).toArray⟩ : ByteArray).size ≤ 9 := by simpa [ByteArray.size] using hpl
     have hcat : Hid ((⟨S.toArray⟩ : ByteArray) ++ ⟨(putL x).toArray⟩ = ⟨(S ++ putL x).toArray⟩) := by show _ = _; apply ByteArray.ext; simp
     go_wp2_with fail
     with_reducible refine kc.out.mono ?_
     rintro e w2 ⟨rfl, B2⟩
     have hB2 := Hd (hB.out.trans (B2.mono hB.out.size))
     clear B2
     go_wp2_with fail
     rw [hcat.out]
     go_roundw
     case rel => exact ⟨k + 1, S ++ putL x, by omega, rfl, by go_num, by show _ = _; rw [htk.out, hS.out]; simp, by show _ = _; rw [htk.out]; have := hok.out; unfold okP at this ⊢; rw [List.all_append, this]; simp [hb'.out], hB2.out⟩
     case measure => simp [intOf]; omega
  · have i1 : ¬ (k : Int) < (N : Int) := by omega
    have hkN : k = l.length := by rw [← hN.out]; omega
    have hS2 : S = l.flatMap putL := by rw [hS.out, hkN, List.take_length]
    have ho2 : okP l = true := by have := hok.out; rw [hkN, List.take_length] at this; exact this
    have hF := Hd (hgood.out wr ho2 hB.out)
    rw [← hS2] at hF
    clear hS2 ho2 hkN
    go_wp2_with fail
    go_ret2
    exact hF.out
end Go.Proofs.YtlaldnlgapeckaaGreat
