/- Maps with integer keys: what is read of them, written, struck. -/
import Derived.MapKept
import Derived.Below
import Derived.WalkKit
namespace Go.Proofs.Ythmkmjkbfjhffaa
namespace MI
open Go Go.RowKit
def look (k:Int):List MapEntry→Option Value
  | [] => none
  | e::es => match e.key with
    | .int .i64 a => if a=k then some e.val else look k es
    | _ => look k es
theorem look_hit {k:Int} {e:MapEntry} {es:List MapEntry} (h:e.key=.int .i64 k):look k (e::es)=some e.val:=by simp [look,h]
theorem look_miss {k:Int} {e:MapEntry} {es:List MapEntry} (h:e.key≠.int .i64 k):look k (e::es)=look k es:=by
  show (match e.key with
    | .int .i64 a => if a=k then some e.val else look k es
    | _ => look k es)=_
  split
  · next a ha => rw [if_neg]; intro q; subst q; exact h ha
  · rfl
def IK (l:List MapEntry):Prop:=∀ e∈l,∃ k,e.key=.int .i64 k
theorem sameNow_int (a b:Int):Instr.sameNow (.int .i64) (.int .i64 a) (.int .i64 b)=some (a==b):=by simp [Instr.sameNow]
theorem findNow_spec (k:Int):∀ (l:List MapEntry) (i:Nat),IK l→
    (Instr.findNow (.int .i64) (.int .i64 k) l i=some none ∧ look k l=none ∧ ∀ e∈l,e.key≠.int .i64 k) ∨
    ∃ j v,Instr.findNow (.int .i64) (.int .i64 k) l i=some (some (i+j,v)) ∧ look k l=some v ∧ ∃ e,l[j]?=some e ∧ e.key=.int .i64 k ∧ e.val=v := by
  intro l
  induction l with
  | nil => intro i _; exact .inl ⟨rfl,rfl,by simp⟩
  | cons e es ih =>
    intro i h
    obtain ⟨a,ha⟩:=h e (by simp)
    have h':IK es:=fun x hx=>h x (by simp [hx])
    by_cases hk:k=a
    · subst hk
      exact .inr ⟨0,e.val,by simp [Instr.findNow,ha,sameNow_int],look_hit ha,e,by simp,ha,rfl⟩
    · have h1:look k (e::es)=look k es:=look_miss (by rw [ha]; intro q; injection q with _ q; exact hk q.symm)
      have h2:Instr.findNow (.int .i64) (.int .i64 k) (e::es) i=Instr.findNow (.int .i64) (.int .i64 k) es (i+1):=by
        have:(k==a)=false:=by simpa using hk
        simp [Instr.findNow,ha,sameNow_int,this]
      rw [h1,h2]
      rcases ih (i+1) h' with ⟨f1,f2,f3⟩|⟨j,v,f1,f2,e',f3,f4,f5⟩
      · exact .inl ⟨f1,f2,fun x hx=>by
          rcases List.mem_cons.1 hx with rfl|hx
          · rw [ha]; intro q; injection q with _ q; exact hk q.symm
          · exact f3 x hx⟩
      · exact .inr ⟨j+1,v,by rw [f1]; congr 3; omega,f2,e',by simpa using f3,f4,f5⟩
def MI (W:World) (b:Nat) (m:Int→Option Value):Prop:=
  ∃ es clk,W.heap[b]?=some (.map es clk) ∧ IK es.toList ∧ (es.toList.map (·.key)).Nodup ∧ ∀ k,look k es.toList=m k
theorem MI.lt {W:World} {b:Nat} {m:Int→Option Value} (h:MI W b m):b<W.heap.size:=by
  obtain ⟨es,clk,h,_⟩:=h; exact (Array.getElem?_eq_some_iff.1 h).1
theorem MI.made (W:World):MI (W.alloc (.map #[] 0)) W.heap.size (fun _=>none):=
  ⟨#[],0,heap_alloc_new W _,by simp [IK],by simp,fun k=>rfl⟩
theorem MI.of {W W':World} {b:Nat} {m:Int→Option Value} (h:MI W b m) (e:W'.heap[b]?=W.heap[b]?):MI W' b m:=by
  obtain ⟨es,clk,h1,h2⟩:=h; exact ⟨es,clk,e.trans h1,h2⟩
theorem MI.below {W W':World} {b n:Nat} {m:Int→Option Value} (h:MI W b m) (B:Below n W W') (hb:b<n):MI W' b m:=h.of (B.block b hb)
theorem MI.grown {W W':World} {b:Nat} {m:Int→Option Value} {r:Option Nat} (h:MI W b m) (g:W.grownBy W' r) (hr:r≠some b):MI W' b m:=
  h.of (g.block b h.lt (fun e=>hr e.symm))
theorem MI.congr {W:World} {b:Nat} {m m':Int→Option Value} (h:MI W b m) (e:∀ k,m k=m' k):MI W b m':=by
  obtain ⟨es,clk,h1,h2,h3,h4⟩:=h; exact ⟨es,clk,h1,h2,h3,fun k=>(h4 k).trans (e k)⟩
theorem MI.read {P:Program} {T:TypeId} {E:TypeId} {K:TypeId} (hT:P.underlying T=some (.map K E)) (hK:P.underlying K=some (.int .i64)) {W:World} {b:Nat} {m:Int→Option Value} (h:MI W b m) {z:Value} (hz:(zeroValue E).run P W=.ok z W) (k:Int):
    (Instr.lookup T (.map (some b)) (.int .i64 k) false).run P W=.ok ((m k).getD z) W:=by
  obtain ⟨es,clk,hb,h1,_,h2⟩:=h
  rw [← h2 k]
  rcases findNow_spec k es.toList 0 h1 with ⟨f1,f2,_⟩|⟨j,v,f1,f2,_⟩
  · simp [Instr.lookup,run_underlying hT,MapKept.run_getObj_map hb,MapKept.run_checkKey hK (show MapKept.IsKey (.int .i64) (.int .i64 k) from rfl),MapKept.run_findKey hK f1,Result.andThen,f2,hz]
  · simp [Instr.lookup,run_underlying hT,MapKept.run_getObj_map hb,MapKept.run_checkKey hK (show MapKept.IsKey (.int .i64) (.int .i64 k) from rfl),MapKept.run_findKey hK f1,Result.andThen,f2]
theorem MI.readOk {P:Program} {T:TypeId} {E:TypeId} {K:TypeId} (hT:P.underlying T=some (.map K E)) (hK:P.underlying K=some (.int .i64)) {W:World} {b:Nat} {m:Int→Option Value} (h:MI W b m) {z:Value} (hz:(zeroValue E).run P W=.ok z W) (k:Int):
    (Instr.lookup T (.map (some b)) (.int .i64 k) true).run P W=.ok (.tuple #[(m k).getD z,.bool (m k).isSome]) W:=by
  obtain ⟨es,clk,hb,h1,_,h2⟩:=h
  rw [← h2 k]
  rcases findNow_spec k es.toList 0 h1 with ⟨f1,f2,_⟩|⟨j,v,f1,f2,_⟩
  · simp [Instr.lookup,run_underlying hT,MapKept.run_getObj_map hb,MapKept.run_checkKey hK (show MapKept.IsKey (.int .i64) (.int .i64 k) from rfl),MapKept.run_findKey hK f1,Result.andThen,f2,hz]
  · simp [Instr.lookup,run_underlying hT,MapKept.run_getObj_map hb,MapKept.run_checkKey hK (show MapKept.IsKey (.int .i64) (.int .i64 k) from rfl),MapKept.run_findKey hK f1,Result.andThen,f2]
theorem look_push (k:Int) (l:List MapEntry) (k':Int) (v:Value) (c:Nat) (hn:∀ e∈l,e.key≠.int .i64 k'):
    look k (l++[⟨.int .i64 k',v,c⟩])=if k=k' then some v else look k l:=by
  induction l with
  | nil =>
    by_cases h:k=k'
    · subst h; simp [look]
    · rw [if_neg h]; exact look_miss (fun q=>h (by injection q with _ q; exact q.symm))
  | cons e es ih =>
    have ih:=ih (fun x hx=>hn x (by simp [hx]))
    simp only [List.cons_append]
    by_cases h1:e.key=.int .i64 k
    · rw [look_hit h1,look_hit h1,if_neg]
      intro q; subst q; exact hn e (by simp) h1
    · rw [look_miss h1,look_miss h1,ih]
theorem look_modify (k k':Int) (v:Value) (kv:Value): ∀ (l:List MapEntry) (j:Nat) (e:MapEntry),l[j]?=some e→e.key=.int .i64 k'→kv=.int .i64 k'→(l.map (·.key)).Nodup→
    look k (l.modify j fun e=>{e with key:=kv,val:=v})=if k=k' then some v else look k l:=by
  intro l
  induction l with
  | nil => intro j e h; simp at h
  | cons x xs ih =>
    intro j e h he hkv hd
    cases j with
    | zero =>
      have:x=e:=by simpa using h
      subst this hkv
      by_cases hk:k=k'
      · subst hk; rw [if_pos rfl]; exact look_hit (by rfl)
      · have h2:∀ y:MapEntry,y.key=.int .i64 k'→y.key≠.int .i64 k:=fun y hy q=>hk (by rw [hy] at q; injection q with _ q; exact q.symm)
        simp only [List.modify_zero_cons]
        rw [if_neg hk,look_miss (h2 _ he),look_miss (h2 _ rfl)]
    | succ j =>
      have hx:x.key≠.int .i64 k':=by
        intro q
        have h1:=(List.nodup_cons.1 (List.map_cons ▸ hd)).1
        have h2:xs[j]?=some e:=by simpa using h
        exact h1 (by rw [q,← he]; exact List.mem_map.2 ⟨e,List.mem_of_getElem? h2,rfl⟩)
      have h3:=ih j e (by simpa using h) he hkv (List.nodup_cons.1 (List.map_cons ▸ hd)).2
      simp only [List.modify_succ_cons]
      by_cases hk:x.key=.int .i64 k
      · rw [look_hit hk,look_hit hk,if_neg]; intro q; subst q; exact hx hk
      · rw [look_miss hk,look_miss hk,h3]
theorem MI.write {P:Program} {T:TypeId} {E:TypeId} {K:TypeId} (hT:P.underlying T=some (.map K E)) (hK:P.underlying K=some (.int .i64)) {W:World} {b:Nat} {m:Int→Option Value} (h:MI W b m) (k:Int) (v:Value):
    ∃ W',(Instr.mapUpdate T (.map (some b)) (.int .i64 k) v).run P W=.ok () W' ∧ MI W' b (fun x=>if x=k then some v else m x) ∧ W.grownBy W' (some b) ∧ W'.heap.size=W.heap.size:=by
  obtain ⟨es,clk,hb,h1,h0,h2⟩:=h
  have hgr:∀ o,W.grownBy {W with heap:=W.heap.setIfInBounds b o} (some b):=fun o=>⟨rfl,rfl,rfl,by simp,fun i _ hne=>(MapKept.heap_set hb).2 i (fun e=>hne (by rw [e]))⟩
  rcases findNow_spec k es.toList 0 h1 with ⟨f1,f2,f3⟩|⟨j,u,f1,f2,e,f3,f4,f5⟩
  · refine ⟨{W with heap:=W.heap.setIfInBounds b (.map (es.push ⟨.int .i64 k,v,clk⟩) (clk+1))},?_,⟨_,_,(MapKept.heap_set hb).1,?_,?_,?_⟩,hgr _,by simp⟩
    · simp [Instr.mapUpdate,run_underlying hT,MapKept.run_getObj_map hb,MapKept.run_checkKey hK (show MapKept.IsKey (.int .i64) (.int .i64 k) from rfl),MapKept.run_findKey hK f1,MapKept.run_setObj_map _ hb,Result.andThen]
    · intro x hx
      simp only [Array.toList_push,List.mem_append,List.mem_singleton] at hx
      rcases hx with hx|rfl
      · exact h1 x hx
      · exact ⟨k,rfl⟩
    · simp only [Array.toList_push,List.map_append,List.map_cons,List.map_nil]
      refine List.nodup_append.2 ⟨h0,by simp,?_⟩
      intro a ha b hb
      simp only [List.mem_singleton] at hb
      subst hb
      obtain ⟨x,hx,rfl⟩:=List.mem_map.1 ha
      exact f3 x hx
    · intro x
      simp only [Array.toList_push]
      rw [look_push x _ k v clk f3,h2]
  · have hj:es[0+j]?=some e:=by simpa using f3
    have hkey:((es[0+j]?).map (·.key)).getD (.int .i64 k)=.int .i64 k:=by rw [hj]; simpa using f4
    have hst:(Instr.keyThatStays (.int .i64 k) (.int .i64 k)).run P W=.ok (.int .i64 k) W:=by
      simp [Instr.keyThatStays,Instr.sameBits]
    refine ⟨{W with heap:=W.heap.setIfInBounds b (.map (es.modify (0+j) fun e=>{e with key:=.int .i64 k,val:=v}) clk)},?_,⟨_,_,(MapKept.heap_set hb).1,?_,?_,?_⟩,hgr _,by simp⟩
    · simp only [Instr.mapUpdate,Sem.run_bind,run_underlying hT,MapKept.run_getObj_map hb,MapKept.run_checkKey hK (show MapKept.IsKey (.int .i64) (.int .i64 k) from rfl),MapKept.run_findKey hK f1,Result.andThen,hkey,hst,MapKept.run_setObj_map _ hb]
    · intro x hx
      have q:=MapKept.isKey_modify (d:=.int .i64) (es:=es) (fun x hx=>by obtain ⟨a,ha⟩:=h1 x hx; rw [ha]; rfl) (0+j) (fun e=>{e with key:=.int .i64 k,val:=v}) (fun x hx=>by
        have:x=e:=by rw [hj] at hx; exact (Option.some.inj hx).symm
        subst this; exact f4.symm) x hx
      revert q; cases x.key <;> simp [MapKept.IsKey]
    · rw [MapKept.modify_keys]
      · exact h0
      · intro x hx; have:x=e:=by rw [hj] at hx; exact (Option.some.inj hx).symm
        subst this; exact f4.symm
    · intro x
      simp only [Array.toList_modify]
      rw [look_modify x k v _ _ (0+j) e (by simpa using f3) f4 rfl h0,h2]
theorem MI.strike {P:Program} {T:TypeId} {E:TypeId} {K:TypeId} (hT:P.underlying T=some (.map K E)) (hK:P.underlying K=some (.int .i64)) {W:World} {b:Nat} {m:Int→Option Value} (h:MI W b m) (k:Int) (ty:TypeId):
    ∃ W',(Builtin.delete_ #[T,K] ty #[.map (some b),.int .i64 k]).run P W=.ok (.tuple #[]) W' ∧ MI W' b (fun x=>if x=k then none else m x) ∧ W.grownBy W' (some b) ∧ W'.heap.size=W.heap.size:=by
  obtain ⟨es,clk,hb,h1,h0,h2⟩:=h
  have hgr:∀ o,W.grownBy {W with heap:=W.heap.setIfInBounds b o} (some b):=fun o=>⟨rfl,rfl,rfl,by simp,fun i _ hne=>(MapKept.heap_set hb).2 i (fun e=>hne (by rw [e]))⟩
  rcases findNow_spec k es.toList 0 h1 with ⟨f1,f2,f3⟩|⟨j,u,f1,f2,e,f3,f4,f5⟩
  · refine ⟨{W with heap:=W.heap.setIfInBounds b (.map es clk)},?_,⟨_,_,(MapKept.heap_set hb).1,h1,h0,?_⟩,hgr _,by simp⟩
    · simp [Builtin.delete_,run_underlying hT,MapKept.run_getObj_map hb,MapKept.run_checkKey hK (show MapKept.IsKey (.int .i64) (.int .i64 k) from rfl),MapKept.run_findKey hK f1,MapKept.run_setObj_map _ hb,Result.andThen]
    · intro x; by_cases hx:x=k
      · subst hx; simp [f2]
      · simp [hx,h2]
  · have hlt:j<es.size:=by simpa using (List.getElem?_eq_some_iff.1 f3).1
    have hl:(es.eraseIdxIfInBounds (0+j)).toList=es.toList.eraseIdx j:=by
      unfold Array.eraseIdxIfInBounds
      simp [hlt]
    refine ⟨{W with heap:=W.heap.setIfInBounds b (.map (es.eraseIdxIfInBounds (0+j)) clk)},?_,⟨_,_,(MapKept.heap_set hb).1,?_,?_,?_⟩,hgr _,by simp⟩
    · simp [Builtin.delete_,run_underlying hT,MapKept.run_getObj_map hb,MapKept.run_checkKey hK (show MapKept.IsKey (.int .i64) (.int .i64 k) from rfl),MapKept.run_findKey hK f1,MapKept.run_setObj_map _ hb,Result.andThen]
    · rw [hl]; exact fun x hx=>h1 x ((List.eraseIdx_sublist _ _).subset hx)
    · rw [hl]; exact ((List.eraseIdx_sublist es.toList j).map _).nodup h0
    · rw [hl]
      intro x
      show _=if x=k then none else m x
      rw [← h2 x]
      clear hl f2 f1 h2 hgr h1 hlt hb hT hK
      generalize es.toList=l at *
      induction l generalizing j with
      | nil => simp at f3
      | cons y ys ih =>
        cases j with
        | zero =>
          have:y=e:=by simpa using f3
          subst this
          have hn:∀ z∈ys,z.key≠.int .i64 k:=fun z hz q=>(List.nodup_cons.1 (List.map_cons ▸ h0)).1 (by rw [f4,← q]; exact List.mem_map.2 ⟨z,hz,rfl⟩)
          simp only [List.eraseIdx_cons_zero]
          by_cases hx:x=k
          · subst hx; rw [if_pos rfl]
            clear ih h0 f3
            induction ys with
            | nil => rfl
            | cons z zs ih => rw [look_miss (hn z (by simp))]; exact ih (fun q hq=>hn q (by simp [hq]))
          · rw [if_neg hx,look_miss]; rw [f4]; intro q; injection q with _ q; exact hx q.symm
        | succ j =>
          have hx0:y.key≠.int .i64 k:=fun q=>(List.nodup_cons.1 (List.map_cons ▸ h0)).1 (by rw [q,← f4]; exact List.mem_map.2 ⟨e,List.mem_of_getElem? (by simpa using f3),rfl⟩)
          simp only [List.eraseIdx_cons_succ]
          have h3:=ih j (List.nodup_cons.1 (List.map_cons ▸ h0)).2 (by simpa using f3)
          by_cases hx:y.key=.int .i64 x
          · rw [look_hit hx,look_hit hx,if_neg]; intro q; subst q; exact hx0 hx
          · rw [look_miss hx,look_miss hx,h3]
end MI
end Go.Proofs.Ythmkmjkbfjhffaa
