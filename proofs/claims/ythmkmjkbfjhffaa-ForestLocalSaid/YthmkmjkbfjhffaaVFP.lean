/- The spanning forest, plain. -/
import Derived.Test.YthmkmjkbfjhffaaVNVYMw
set_option maxRecDepth 100000
set_option maxHeartbeats 1000000
namespace Go.Proofs.Ythmkmjkbfjhffaa
structure Pl where
 root:Int
 depth:Int
 edge:Int
deriving DecidableEq
abbrev PM:=Int→Option Pl
def gp (m:PM) (k:Int):Pl:=(m k).getD ⟨0,0,0⟩
def putP (m:PM) (k:Int) (p:Pl):PM:=fun x=>if x=k then some p else m x
structure St where
 m:PM
 q:List Int
def meetF (s:St) (i:Int) (p:Pl):St:=⟨putP s.m i p,s.q++[i]⟩
def visitE (r a:Int) (s:St) (e:Ed):St:=if (s.m (otherI e a)).isSome then s else meetF s (otherI e a) ⟨r,(gp s.m a).depth+1,0⟩
def visitF (r a:Int) (s:St) (l:List Ed):St:=l.foldl (visitE r a) s
def popF (s:St):St:=⟨s.m,s.q.tail⟩
def runQ (es:List Ed) (r:Int):Nat→St→St
 | 0,s=>s
 | n+1,s=>match s.q with
  | []=>s
  | a::_=>runQ es r n (popF (visitF r a s (atF es a)))
def spreadV (es:List Ed) (s:St) (v:Int):St:=if (s.m v).isSome then s else runQ es v 100 (meetF s v ⟨v,0,0⟩)
def spreadF (es:List Ed) (V:List Int):St:=V.foldl (spreadV es) ⟨fun _=>none,[]⟩
def upF (m:PM) (i:Int) (l:List Ed):Int:=match l.find? (fun e=>(gp m (otherI e i)).depth==(gp m i).depth-1) with
 | some e=>e.id
 | none=> -1
def growE (es:List Ed) (m:PM) (v:Int):PM:=putP m v {gp m v with edge:=upF m v (atF es v)}
def growF (es:List Ed) (V:List Int):PM:=V.foldl (growE es) (spreadF es V).m
def stepF (es:List Ed) (a x:Int):Int×Bool:=match (atF es a).find? (fun e=>e.id==x) with
 | some e=>(otherI e a,true)
 | none=>(0,false)
def parF (es:List Ed) (m:PM) (i:Int):Int:=(stepF es i (gp m i).edge).1
def climbF (es:List Ed) (m:PM):Nat→Int→List Int
 | 0,_=>[]
 | n+1,i=>(gp m i).edge::climbF es m n (parF es m i)
def climb (es:List Ed) (m:PM) (i:Int):List Int:=climbF es m (gp m i).depth.toNat i
def cp:List Int→List Int→List Int×List Int
 | x::xs,y::ys=>if x=y then cp xs ys else (x::xs,y::ys)
 | [],ys=>([],ys)
 | xs,[]=>(xs,[])
def pathF (es:List Ed) (m:PM) (a b:Int):List Int:=
 let c:=cp (climb es m a).reverse (climb es m b).reverse
 c.1.reverse++c.2
/-! ### what a graph must be -/
structure GrOk (es:List Ed) (V:List Int):Prop where
 ends:∀ e∈es,e.src∈V ∧ e.dst∈V
 uniq:∀ e∈es,∀ f∈es,e.id=f.id→e=f
 nonneg:∀ e∈es,0≤e.id
 vnn:∀ v∈V,0≤v
 nodup:V.Nodup
theorem mem_atF {es:List Ed} {a:Int} {e:Ed}:e∈atF es a↔e∈es ∧ (e.src=a ∨ e.dst=a):=by simp [atF]
theorem other_mem {es:List Ed} {V:List Int} (h:GrOk es V) {a:Int} {e:Ed} (he:e∈atF es a):otherI e a∈V:=by
 obtain ⟨h1,h2⟩:=mem_atF.1 he
 obtain ⟨h3,h4⟩:=h.ends e h1
 unfold otherI
 split
 · exact h4
 · split
   · exact h3
   · omega
theorem other_back {e:Ed} {a:Int} (h:e.src=a ∨ e.dst=a):otherI e (otherI e a)=a ∧ (e.src=otherI e a ∨ e.dst=otherI e a):=by
 unfold otherI
 by_cases h1:e.src=a
 · subst h1; simp only [if_pos]
   by_cases h2:e.src=e.dst
   · simp [h2]
   · simp [h2]
 · rcases h with h|h
   · exact absurd h h1
   · subst h; simp [h1]
theorem atF_back {es:List Ed} {a:Int} {e:Ed} (h:e∈atF es a):e∈atF es (otherI e a):=by
 obtain ⟨h1,h2⟩:=mem_atF.1 h; exact mem_atF.2 ⟨h1,(other_back h2).2⟩
/-! ### the spreading -/
def unm (V:List Int) (m:PM):Nat:=(V.filter fun v=>(m v).isNone).length
theorem putP_same (m:PM) (k:Int) (p:Pl):putP m k p k=some p:=by simp [putP]
theorem putP_other (m:PM) {k x:Int} (p:Pl) (h:x≠k):putP m k p x=m x:=by simp [putP,h]
theorem unm_put (V:List Int) (m:PM) (k:Int) (p:Pl) (hd:V.Nodup) (hk:k∈V) (hm:(m k).isSome=false):unm V (putP m k p)+1=unm V m:=by
 induction V with
 | nil => simp at hk
 | cons x xs ih =>
  obtain ⟨h1,h2⟩:=List.nodup_cons.1 hd
  have hn:m k=none:=by simpa using hm
  by_cases hx:x=k
  · subst hx
    have e:∀ v∈xs,((putP m x p v).isNone)=((m v).isNone):=fun v hv=>by rw [putP_other]; intro q; subst q; exact h1 hv
    unfold unm
    rw [List.filter_cons_of_neg (by simp [putP_same]),List.filter_cons_of_pos (by simp [hn]),List.filter_congr e]
    rfl
  · have hk':k∈xs:=by rcases List.mem_cons.1 hk with h|h; exact absurd h.symm hx; exact h
    have h3:=ih h2 hk'
    unfold unm at h3 ⊢
    by_cases h4:(m x).isNone=true
    · rw [List.filter_cons_of_pos (by rw [putP_other _ _ hx]; exact h4),List.filter_cons_of_pos (p:=fun v=>(m v).isNone) h4]; simp only [List.length_cons]; omega
    · rw [List.filter_cons_of_neg (by rw [putP_other _ _ hx]; exact h4),List.filter_cons_of_neg (p:=fun v=>(m v).isNone) h4]; exact h3
theorem unm_le (V:List Int) (m:PM):unm V m≤V.length:=List.length_filter_le _ _
/-- what holds while the forest grows -/
structure Inv (es:List Ed) (V:List Int) (m:PM):Prop where
 mem:∀ k p,m k=some p→k∈V
 lo:∀ k p,m k=some p→0≤p.depth
 hi:∀ k p,m k=some p→p.depth+(unm V m:Nat)<V.length
 rt:∀ k p,m k=some p→p.depth=0→p.root=k
 up:∀ k p,m k=some p→0<p.depth→∃ e∈atF es k,∃ p',m (otherI e k)=some p' ∧ p'.root=p.root ∧ p'.depth=p.depth-1
theorem Inv.empty (es:List Ed) (V:List Int):Inv es V (fun _=>none):=⟨fun _ _ h=>by simp at h,fun _ _ h=>by simp at h,fun _ _ h=>by simp at h,fun _ _ h=>by simp at h,fun _ _ h=>by simp at h⟩
theorem Inv.put {es:List Ed} {V:List Int} {m:PM} (G:GrOk es V) (h:Inv es V m) {k:Int} {p:Pl} (hk:k∈V) (hm:(m k).isSome=false) (h0:0≤p.depth) (h1:p.depth=0→p.root=k)
  (h2:p.depth+(unm V m:Nat)≤V.length) (h3:0<p.depth→∃ e∈atF es k,∃ p',m (otherI e k)=some p' ∧ p'.root=p.root ∧ p'.depth=p.depth-1):Inv es V (putP m k p):=by
 have hu:=unm_put V m k p G.nodup hk hm
 have hn:m k=none:=by simpa using hm
 have key:∀ x y,putP m k p x=some y→(x=k ∧ y=p) ∨ (x≠k ∧ m x=some y):=fun x y e=>by
  by_cases hx:x=k
  · subst hx; rw [putP_same] at e; exact .inl ⟨rfl,(Option.some.inj e).symm⟩
  · rw [putP_other _ _ hx] at e; exact .inr ⟨hx,e⟩
 have old:∀ x y,m x=some y→putP m k p x=some y:=fun x y e=>by rw [putP_other]; exact e; intro q; subst q; rw [hn] at e; cases e
 have lift:∀ x (q:Pl),(∃ e∈atF es x,∃ p',m (otherI e x)=some p' ∧ p'.root=q.root ∧ p'.depth=q.depth-1)→∃ e∈atF es x,∃ p',putP m k p (otherI e x)=some p' ∧ p'.root=q.root ∧ p'.depth=q.depth-1:=fun x q ⟨e,he,p',a,b,c⟩=>⟨e,he,p',old _ _ a,b,c⟩
 refine ⟨fun x y e=>?_,fun x y e=>?_,fun x y e=>?_,fun x y e=>?_,fun x y e=>?_⟩ <;> rcases key x y e with ⟨rfl,rfl⟩|⟨hx,e⟩
 · exact hk
 · exact h.mem _ _ e
 · exact h0
 · exact h.lo _ _ e
 · omega
 · have:=h.hi _ _ e; omega
 · exact h1
 · exact h.rt _ _ e
 · exact fun q=>lift _ _ (h3 q)
 · exact fun q=>lift _ _ (h.up _ _ e q)
structure InvS (es:List Ed) (V:List Int) (r:Int) (s:St):Prop where
 inv:Inv es V s.m
 q:∀ k∈s.q,∃ p,s.m k=some p ∧ p.root=r
 cl:∀ k p,s.m k=some p→k∉s.q→∀ e∈atF es k,∃ p',s.m (otherI e k)=some p' ∧ p'.root=p.root
def msr (V:List Int) (s:St):Nat:=unm V s.m+s.q.length
theorem gp_some {m:PM} {k:Int} {p:Pl} (h:m k=some p):gp m k=p:=by simp [gp,h]
theorem meet_inv {es:List Ed} {V:List Int} {r:Int} {s:St} (G:GrOk es V) (h:InvS es V r s) {k:Int} {p:Pl} (hr:p.root=r) (hk:k∈V) (hm:(s.m k).isSome=false) (h0:0≤p.depth) (h1:p.depth=0→p.root=k)
  (h2:p.depth+(unm V s.m:Nat)≤V.length) (h3:0<p.depth→∃ e∈atF es k,∃ p',s.m (otherI e k)=some p' ∧ p'.root=p.root ∧ p'.depth=p.depth-1):
  InvS es V r (meetF s k p) ∧ msr V (meetF s k p)=msr V s:=by
 refine ⟨⟨h.inv.put G hk hm h0 h1 h2 h3,fun x hx=>?_,fun x y e hx f hf=>?_⟩,?_⟩
 · by_cases hxk:x=k
   · subst hxk; exact ⟨p,putP_same _ _ _,hr⟩
   · have:x∈s.q:=by
      have:=List.mem_append.1 hx
      rcases this with h|h
      · exact h
      · exact absurd (List.mem_singleton.1 h) hxk
     obtain ⟨p',a,b⟩:=h.q x this
     exact ⟨p',by show putP _ _ _ _=_; rw [putP_other _ _ hxk]; exact a,b⟩
 · have hxk:x≠k:=fun q=>hx (by simp [meetF,q])
   obtain ⟨p',a,b⟩:=h.cl x y (by rw [← putP_other s.m p hxk]; exact e) (fun q=>hx (by simp [meetF,q])) f hf
   refine ⟨p',?_,b⟩
   show putP _ _ _ _=_; rw [putP_other]; exact a
   intro q; rw [q] at a; rw [a] at hm; simp at hm
 · have:=unm_put V s.m k p G.nodup hk hm
   unfold msr meetF; simp only [List.length_append,List.length_singleton]; omega
theorem visitE_inv {es:List Ed} {V:List Int} {r:Int} {s:St} (G:GrOk es V) (h:InvS es V r s) {a:Int} {p:Pl} (ha:s.m a=some p) (hr:p.root=r) {e:Ed} (he:e∈atF es a):
  InvS es V r (visitE r a s e) ∧ msr V (visitE r a s e)=msr V s ∧ (∀ k y,s.m k=some y→(visitE r a s e).m k=some y) ∧ (∃ t,(visitE r a s e).q=s.q++t) ∧ ∃ p',(visitE r a s e).m (otherI e a)=some p' ∧ p'.root=r:=by
 unfold visitE
 by_cases hm:(s.m (otherI e a)).isSome=true
 · rw [if_pos hm]
   refine ⟨h,rfl,fun _ _ h=>h,⟨[],by simp⟩,?_⟩
   obtain ⟨p',hp'⟩:=Option.isSome_iff_exists.1 hm
   refine ⟨p',hp',?_⟩
   by_cases hq:otherI e a∈s.q
   · obtain ⟨y,h1,h2⟩:=h.q _ hq; rw [hp'] at h1; cases h1; exact h2
   · obtain ⟨y,h1,h2⟩:=h.cl _ _ hp' hq e (atF_back he)
     rw [(other_back (mem_atF.1 he).2).1,ha] at h1; cases h1; exact h2.symm.trans hr
 · rw [if_neg hm]
   have hm':(s.m (otherI e a)).isSome=false:=by simpa using hm
   have hne:a≠otherI e a:=fun q=>by rw [← q,ha] at hm'; simp at hm'
   have hlo:=h.inv.lo _ _ ha
   have hhi:=h.inv.hi _ _ ha
   have hb:=other_back (mem_atF.1 he).2
   obtain ⟨k1,k2⟩:=meet_inv G h (k:=otherI e a) (p:=⟨r,(gp s.m a).depth+1,0⟩) rfl (other_mem G he) hm' (by simp only [gp_some ha]; omega) (by simp only [gp_some ha]; omega) (by simp only [gp_some ha]; omega)
    (fun _=>⟨e,atF_back he,p,by rw [hb.1]; exact ha,hr,by simp only [gp_some ha]; omega⟩)
   refine ⟨k1,k2,fun k y hk=>?_,⟨[otherI e a],rfl⟩,_,putP_same _ _ _,rfl⟩
   show putP _ _ _ _=_; rw [putP_other]; exact hk
   intro q; rw [← q,hk] at hm'; simp at hm'
theorem visitF_inv {es:List Ed} {V:List Int} {r:Int} (G:GrOk es V) {a:Int} {p:Pl} (hr:p.root=r):∀ (l:List Ed) {s:St},InvS es V r s→s.m a=some p→(∀ e∈l,e∈atF es a)→
  InvS es V r (visitF r a s l) ∧ msr V (visitF r a s l)=msr V s ∧ (∀ k y,s.m k=some y→(visitF r a s l).m k=some y) ∧ (∃ t,(visitF r a s l).q=s.q++t) ∧ ∀ e∈l,∃ p',(visitF r a s l).m (otherI e a)=some p' ∧ p'.root=r:=by
 intro l
 induction l with
 | nil => intro s h ha _; exact ⟨h,rfl,fun _ _ h=>h,⟨[],by simp [visitF]⟩,fun e he=>by simp at he⟩
 | cons e l ih =>
  intro s h ha hl
  obtain ⟨h1,h2,h3,⟨t,h4⟩,p',h5,h6⟩:=visitE_inv G h ha hr (hl e (by simp))
  obtain ⟨k1,k2,k3,⟨u,k4⟩,k5⟩:=ih h1 (h3 _ _ ha) (fun f hf=>hl f (by simp [hf]))
  refine ⟨k1,k2.trans h2,fun k y hk=>k3 k y (h3 k y hk),⟨t++u,by show (visitF r a (visitE r a s e) l).q=_; rw [k4,h4,List.append_assoc]⟩,fun f hf=>?_⟩
  rcases List.mem_cons.1 hf with rfl|hf
  · exact ⟨p',k3 _ _ h5,h6⟩
  · exact k5 f hf
theorem round_inv {es:List Ed} {V:List Int} {r:Int} (G:GrOk es V) {s:St} (h:InvS es V r s) {a:Int} {t:List Int} (hq:s.q=a::t):
  InvS es V r (popF (visitF r a s (atF es a))) ∧ msr V (popF (visitF r a s (atF es a)))+1=msr V s:=by
 obtain ⟨p,hp,hr⟩:=h.q a (by simp [hq])
 obtain ⟨h1,h2,h3,⟨u,h4⟩,h5⟩:=visitF_inv G hr (atF es a) h hp (fun e he=>he)
 refine ⟨⟨h1.inv,fun k hk=>h1.q k (List.mem_of_mem_tail hk),fun k y hk hkq e he=>?_⟩,?_⟩
 · by_cases hka:k=a
   · subst hka
     have:=h3 _ _ hp
     rw [show (popF (visitF r k s (atF es k))).m k=(visitF r k s (atF es k)).m k from rfl,this] at hk; cases hk
     obtain ⟨p',c,d⟩:=h5 e he; exact ⟨p',c,d.trans hr.symm⟩
   · refine h1.cl k y hk (fun q=>hkq ?_) e he
     show k∈(visitF r a s (atF es a)).q.tail
     rw [h4,hq] at q ⊢
     simpa [hka] using q
 rw [← h2]; unfold msr popF; simp only; rw [h4,hq]; simp; omega
theorem runQ_spec {es:List Ed} {V:List Int} {r:Int} (G:GrOk es V):∀ (n:Nat) {s:St},InvS es V r s→msr V s≤n→InvS es V r (runQ es r n s) ∧ (runQ es r n s).q=[]:=by
 intro n
 induction n with
 | zero => intro s h hn; exact ⟨h,List.length_eq_zero_iff.1 (by unfold msr at hn; show s.q.length=0; omega)⟩
 | succ n ih =>
  intro s h hn
  unfold runQ
  cases hq:s.q with
  | nil => exact ⟨h,hq⟩
  | cons a t =>
   obtain ⟨h1,h2⟩:=round_inv G h hq
   exact ih h1 (by omega)
theorem runQ_nil {es:List Ed} {r:Int} (n:Nat) {s:St} (h:s.q=[]):runQ es r n s=s:=by
 cases n with
 | zero => rfl
 | succ n => unfold runQ; rw [h]
theorem runQ_keeps {es:List Ed} {r:Int}:∀ (n:Nat) {s:St} {k:Int},(s.m k).isSome=true→((runQ es r n s).m k).isSome=true:=by
 have hv:∀ (a:Int) (l:List Ed) (s:St) (k:Int),(s.m k).isSome=true→((visitF r a s l).m k).isSome=true:=by
  intro a l
  induction l with
  | nil => intro s k h; exact h
  | cons e l ih =>
   intro s k h
   refine ih _ k ?_
   unfold visitE
   split
   · exact h
   · show (putP _ _ _ _).isSome=true
     unfold putP; split
     · rfl
     · exact h
 intro n
 induction n with
 | zero => intro s k h; exact h
 | succ n ih =>
  intro s k h
  unfold runQ
  split
  · exact h
  · exact ih (hv _ _ _ _ h)
structure InvV (es:List Ed) (V:List Int) (s:St):Prop where
 inv:Inv es V s.m
 q:s.q=[]
 cl:∀ k p,s.m k=some p→∀ e∈atF es k,∃ p',s.m (otherI e k)=some p' ∧ p'.root=p.root
theorem spreadV_inv {es:List Ed} {V:List Int} (G:GrOk es V) (hV:V.length≤24) {s:St} (h:InvV es V s) {v:Int} (hv:v∈V):
  InvV es V (spreadV es s v) ∧ ((spreadV es s v).m v).isSome=true ∧ ∀ k,(s.m k).isSome=true→((spreadV es s v).m k).isSome=true:=by
 unfold spreadV
 by_cases hm:(s.m v).isSome=true
 · rw [if_pos hm]; exact ⟨h,hm,fun _ h=>h⟩
 · rw [if_neg hm]
   have hm':(s.m v).isSome=false:=by simpa using hm
   have h0:InvS es V v s:=⟨h.inv,fun k hk=>by rw [h.q] at hk; simp at hk,fun k p hk _=>h.cl k p hk⟩
   have hu:=unm_put V s.m v ⟨v,0,0⟩ G.nodup hv hm'
   have hle:=unm_le V s.m
   obtain ⟨h1,h2⟩:=meet_inv G h0 (k:=v) (p:=⟨v,0,0⟩) rfl hv hm' (by simp) (by simp) (by simp only; omega) (fun q=>by simp at q)
   have hms:msr V (meetF s v ⟨v,0,0⟩)≤100:=by rw [h2]; unfold msr; rw [h.q]; simp; omega
   obtain ⟨k1,k2⟩:=runQ_spec G 100 h1 hms
   refine ⟨⟨k1.inv,k2,fun k p hk=>k1.cl k p hk (by rw [k2]; simp)⟩,runQ_keeps _ (by show (putP _ _ _ _).isSome=true; rw [putP_same]; rfl),fun k hk=>runQ_keeps _ ?_⟩
   show (putP _ _ _ _).isSome=true
   unfold putP; split
   · rfl
   · exact hk
theorem spread_fold {es:List Ed} {V:List Int} (G:GrOk es V) (hV:V.length≤24):∀ (l:List Int) {s:St},InvV es V s→(∀ v∈l,v∈V)→
  InvV es V (l.foldl (spreadV es) s) ∧ (∀ v∈l,((l.foldl (spreadV es) s).m v).isSome=true) ∧ ∀ k,(s.m k).isSome=true→((l.foldl (spreadV es) s).m k).isSome=true:=by
 intro l
 induction l with
 | nil => intro s h _; exact ⟨h,fun v hv=>by simp at hv,fun _ h=>h⟩
 | cons v l ih =>
  intro s h hl
  obtain ⟨h1,h2,h3⟩:=spreadV_inv G hV h (hl v (by simp))
  obtain ⟨k1,k2,k3⟩:=ih h1 (fun x hx=>hl x (by simp [hx]))
  refine ⟨k1,fun x hx=>?_,fun k hk=>k3 k (h3 k hk)⟩
  rcases List.mem_cons.1 hx with rfl|hx
  · exact k3 _ h2
  · exact k2 x hx
theorem spread_inv {es:List Ed} {V:List Int} (G:GrOk es V) (hV:V.length≤24):InvV es V (spreadF es V) ∧ ∀ v∈V,((spreadF es V).m v).isSome=true:=by
 obtain ⟨h1,h2,_⟩:=spread_fold G hV V (s:=⟨fun _=>none,[]⟩) ⟨Inv.empty es V,rfl,fun k p h=>by simp at h⟩ (fun v h=>h)
 exact ⟨h1,h2⟩
/-! ### the edges are filled in -/
theorem growE_root (es:List Ed) (m:PM) (v k:Int):(gp (growE es m v) k).root=(gp m k).root ∧ (gp (growE es m v) k).depth=(gp m k).depth:=by
 unfold growE gp putP
 by_cases h:k=v
 · subst h; simp
 · simp [h]
theorem upF_depth {m m':PM} (h:∀ k,(gp m k).depth=(gp m' k).depth) (i:Int) (l:List Ed):upF m i l=upF m' i l:=by
 unfold upF; simp only [h]
theorem growE_at (es:List Ed) (m:PM) (v k:Int):growE es m v k=if k=v then some {gp m v with edge:=upF m v (atF es v)} else m k:=rfl
theorem grow_fold (es:List Ed) (s:PM):∀ (l:List Int) (m:PM),l.Nodup→(∀ k,(gp m k).root=(gp s k).root ∧ (gp m k).depth=(gp s k).depth)→(∀ k∈l,m k=s k)→
  (∀ k,(gp (l.foldl (growE es) m) k).root=(gp s k).root ∧ (gp (l.foldl (growE es) m) k).depth=(gp s k).depth) ∧
  ∀ k,l.foldl (growE es) m k=if k∈l then some {gp s k with edge:=upF s k (atF es k)} else m k:=by
 intro l
 induction l with
 | nil => intro m _ h _; exact ⟨h,fun k=>by simp⟩
 | cons v l ih =>
  intro m hd h hm
  obtain ⟨d1,d2⟩:=List.nodup_cons.1 hd
  obtain ⟨k1,k2⟩:=ih (growE es m v) d2 (fun k=>by have:=growE_root es m v k; exact ⟨this.1.trans (h k).1,this.2.trans (h k).2⟩)
   (fun k hk=>by rw [growE_at,if_neg (fun q=>d1 (by rw [← q]; exact hk))]; exact hm k (by simp [hk]))
  refine ⟨k1,fun k=>?_⟩
  show l.foldl (growE es) (growE es m v) k=_
  rw [k2 k]
  by_cases hk:k∈l
  · rw [if_pos hk,if_pos (by simp [hk])]
  · rw [if_neg hk,growE_at]
    by_cases hv:k=v
    · subst hv; rw [if_pos rfl,if_pos (by simp),upF_depth (fun x=>(h x).2)]
      have:gp m k=gp s k:=by unfold gp; rw [hm k (by simp)]
      rw [this]
    · rw [if_neg hv,if_neg (by simp [hv,hk])]
/-- what grow has found -/
structure Gd (es:List Ed) (V:List Int) (m:PM):Prop where
 all:∀ v∈V,∃ p,m v=some p
 mem:∀ k p,m k=some p→k∈V
 lo:∀ k,0≤(gp m k).depth
 hi:∀ k∈V,(gp m k).depth<V.length
 rt:∀ k∈V,(gp m k).depth=0→(gp m k).root=k ∧ (gp m k).edge= -1
 up:∀ k∈V,0<(gp m k).depth→∃ e∈atF es k,e.id=(gp m k).edge ∧ otherI e k∈V ∧ (gp m (otherI e k)).root=(gp m k).root ∧ (gp m (otherI e k)).depth=(gp m k).depth-1
theorem upF_some {m:PM} {i:Int} {l:List Ed} {e:Ed} (he:e∈l) (hd:(gp m (otherI e i)).depth=(gp m i).depth-1):∃ f∈l,upF m i l=f.id ∧ (gp m (otherI f i)).depth=(gp m i).depth-1:=by
 unfold upF
 cases h:l.find? (fun e=>(gp m (otherI e i)).depth==(gp m i).depth-1) with
 | none => have:=List.find?_eq_none.1 h e he; simp [hd] at this
 | some f => exact ⟨f,List.mem_of_find?_eq_some h,rfl,by simpa using List.find?_some h⟩
theorem upF_none {m:PM} {i:Int} {l:List Ed} (h:∀ e∈l,(gp m (otherI e i)).depth≠(gp m i).depth-1):upF m i l= -1:=by
 unfold upF
 cases h2:l.find? (fun e=>(gp m (otherI e i)).depth==(gp m i).depth-1) with
 | none => rfl
 | some f => exact absurd (by simpa using List.find?_some h2) (h f (List.mem_of_find?_eq_some h2))
theorem grow_good {es:List Ed} {V:List Int} (G:GrOk es V) (hV:V.length≤24):Gd es V (growF es V) ∧ ∀ v∈V,∀ e∈atF es v,(gp (growF es V) (otherI e v)).root=(gp (growF es V) v).root:=by
 obtain ⟨h1,h2⟩:=spread_inv G hV
 obtain ⟨g1,g2⟩:=grow_fold es (spreadF es V).m V (spreadF es V).m G.nodup (fun _=>⟨rfl,rfl⟩) (fun _ _=>rfl)
 change (∀ k,(gp (growF es V) k).root=_ ∧ (gp (growF es V) k).depth=_) at g1
 change (∀ k,growF es V k=_) at g2
 generalize growF es V=m at *
 have hs:∀ v∈V,∃ p,(spreadF es V).m v=some p:=fun v hv=>Option.isSome_iff_exists.1 (h2 v hv)
 generalize spreadF es V=s at *
 have hv:∀ v∈V,m v=some {gp s.m v with edge:=upF s.m v (atF es v)}:=fun v hv=>by rw [g2,if_pos hv]
 have he:∀ v∈V,(gp m v).edge=upF s.m v (atF es v):=fun v h=>by rw [gp_some (hv v h)]
 have hup:∀ v∈V,0<(gp s.m v).depth→∃ e∈atF es v,(gp s.m (otherI e v)).depth=(gp s.m v).depth-1:=fun v h h0=>by
  obtain ⟨p,hp⟩:=hs v h
  rw [gp_some hp] at h0 ⊢
  obtain ⟨e,he,p',a,_,c⟩:=h1.inv.up v p hp h0
  exact ⟨e,he,by rw [gp_some a]; exact c⟩
 have hlo:∀ k,0≤(gp s.m k).depth:=fun k=>by
  unfold gp
  cases hk:s.m k with
  | none => simp
  | some p => exact h1.inv.lo k p hk
 have hroot:∀ v∈V,∀ e∈atF es v,(gp m (otherI e v)).root=(gp m v).root:=fun v h e he=>by
  obtain ⟨p,hp⟩:=hs v h
  obtain ⟨p',a,b⟩:=h1.cl v p hp e he
  rw [(g1 _).1,(g1 v).1,gp_some hp,gp_some a,b]
 refine ⟨⟨fun v h=>⟨_,hv v h⟩,fun k p hk=>?_,fun k=>by rw [(g1 k).2]; exact hlo k,fun k h=>?_,fun k h h0=>?_,fun k h h0=>?_⟩,hroot⟩
 · by_cases h:k∈V
   · exact h
   · rw [g2,if_neg h] at hk; exact h1.inv.mem k p hk
 · obtain ⟨p,hp⟩:=hs k h
   rw [(g1 k).2,gp_some hp]; have:=h1.inv.hi k p hp; omega
 · obtain ⟨p,hp⟩:=hs k h
   rw [(g1 k).2] at h0
   refine ⟨?_,?_⟩
   · rw [(g1 k).1,gp_some hp]; exact h1.inv.rt k p hp (by rw [← gp_some hp]; exact h0)
   · rw [he k h]; exact upF_none fun e _ q=>by have:=hlo (otherI e k); omega
 · rw [(g1 k).2] at h0
   obtain ⟨e,h3,h4⟩:=hup k h h0
   obtain ⟨f,f1,f2,f3⟩:=upF_some h3 h4
   exact ⟨f,f1,by rw [he k h,f2],other_mem G f1,hroot k h f f1,by rw [(g1 _).2,(g1 k).2]; exact f3⟩
/-! ### ways to the root -/
theorem step_of {es:List Ed} {V:List Int} (G:GrOk es V) {a:Int} {e:Ed} (he:e∈atF es a):stepF es a e.id=(otherI e a,true):=by
 unfold stepF
 cases h:(atF es a).find? (fun f=>f.id==e.id) with
 | none => have:=List.find?_eq_none.1 h e he; simp at this
 | some f =>
  have h1:f.id=e.id:=by simpa using List.find?_some h
  have h2:=G.uniq f (mem_atF.1 (List.mem_of_find?_eq_some h)).1 e (mem_atF.1 he).1 h1
  rw [h2]
theorem par_ok {es:List Ed} {V:List Int} {m:PM} (G:GrOk es V) (M:Gd es V m) {k:Int} (hk:k∈V) (h0:0<(gp m k).depth):∃ e∈atF es k,e.id=(gp m k).edge ∧ parF es m k=otherI e k ∧ parF es m k∈V ∧ (gp m (parF es m k)).root=(gp m k).root ∧ (gp m (parF es m k)).depth=(gp m k).depth-1 ∧ stepF es k (gp m k).edge=(parF es m k,true):=by
 obtain ⟨e,h1,h2,h3,h4,h5⟩:=M.up k hk h0
 have h6:=step_of G h1
 rw [h2] at h6
 have h7:parF es m k=otherI e k:=by unfold parF; rw [h6]
 exact ⟨e,h1,h2,h7,by rw [h7]; exact h3,by rw [h7]; exact h4,by rw [h7]; exact h5,by rw [h6,h7]⟩
theorem climb_nil {es:List Ed} {m:PM} {k:Int} (h0:(gp m k).depth=0):climb es m k=[]:=by unfold climb; rw [h0]; rfl
theorem climb_cons {es:List Ed} {V:List Int} {m:PM} (G:GrOk es V) (M:Gd es V m) {k:Int} (hk:k∈V) (h0:0<(gp m k).depth):climb es m k=(gp m k).edge::climb es m (parF es m k):=by
 obtain ⟨e,_,_,_,_,_,h5,_⟩:=par_ok G M hk h0
 unfold climb
 obtain ⟨n,hn⟩:∃ n,(gp m k).depth.toNat=n+1:=⟨(gp m k).depth.toNat-1,by omega⟩
 rw [hn,h5,show ((gp m k).depth-1).toNat=n by omega]
 rfl
theorem climb_len {es:List Ed} {V:List Int} {m:PM} (G:GrOk es V) (M:Gd es V m) {k:Int} (hk:k∈V):(climb es m k).length=(gp m k).depth.toNat:=by
 generalize hd:(gp m k).depth.toNat=d
 induction d generalizing k with
 | zero => rw [climb_nil (by have:=M.lo k; omega)]; rfl
 | succ d ih =>
  obtain ⟨e,_,_,_,h3,_,h5,_⟩:=par_ok G M hk (by omega)
  rw [climb_cons G M hk (by omega),List.length_cons,ih h3 (by omega)]
theorem climb_inj {es:List Ed} {V:List Int} {m:PM} (G:GrOk es V) (M:Gd es V m) {u v:Int} (hu:u∈V) (hv:v∈V) (hr:(gp m u).root=(gp m v).root) (hc:climb es m u=climb es m v):u=v:=by
 generalize hd:(gp m u).depth.toNat=d
 induction d generalizing u v with
 | zero =>
  have l1:=climb_len G M hu
  have l2:=climb_len G M hv
  have a:=M.lo u; have b:=M.lo v
  rw [hc] at l1
  rw [← (M.rt u hu (by omega)).1,hr,(M.rt v hv (by omega)).1]
 | succ d ih =>
  have l1:=climb_len G M hu
  have l2:=climb_len G M hv
  rw [hc] at l1
  obtain ⟨e,a1,a2,a3,a4,a5,a6,_⟩:=par_ok G M hu (by omega)
  obtain ⟨f,b1,b2,b3,b4,b5,b6,_⟩:=par_ok G M hv (by omega)
  rw [climb_cons G M hu (by omega),climb_cons G M hv (by omega)] at hc
  injection hc with c1 c2
  have hp:=ih a4 b4 (by rw [a5,b5,hr]) c2 (by omega)
  have hef:e=f:=G.uniq e (mem_atF.1 a1).1 f (mem_atF.1 b1).1 (by rw [a2,b2,c1])
  subst hef
  rw [a3,b3] at hp
  rw [← (other_back (mem_atF.1 a1).2).1,hp,(other_back (mem_atF.1 b1).2).1]
/-- the j-th vertex on the way up -/
def anc (es:List Ed) (m:PM):Nat→Int→Int
 | 0,k=>k
 | n+1,k=>anc es m n (parF es m k)
theorem anc_succ {es:List Ed} {m:PM} (n:Nat) (k:Int):anc es m (n+1) k=parF es m (anc es m n k):=by
 induction n generalizing k with
 | zero => rfl
 | succ n ih => show anc es m (n+1) (parF es m k)=_; rw [ih]; rfl
theorem anc_ok {es:List Ed} {V:List Int} {m:PM} (G:GrOk es V) (M:Gd es V m) {k:Int} (hk:k∈V) {j:Nat} (hj:j≤(gp m k).depth.toNat):anc es m j k∈V ∧ (gp m (anc es m j k)).root=(gp m k).root ∧ (gp m (anc es m j k)).depth=(gp m k).depth-j ∧ climb es m (anc es m j k)=(climb es m k).drop j:=by
 induction j with
 | zero => exact ⟨hk,rfl,by show (gp m k).depth=_; omega,rfl⟩
 | succ j ih =>
  obtain ⟨h1,h2,h3,h4⟩:=ih (by omega)
  obtain ⟨e,_,_,_,a4,a5,a6,_⟩:=par_ok G M h1 (by omega)
  rw [anc_succ]
  refine ⟨a4,a5.trans h2,by omega,?_⟩
  have h5:=climb_cons G M h1 (by omega)
  rw [h4] at h5
  rw [← List.tail_drop,h5]; rfl
theorem cp_spec:∀ (a b:List Int),∃ c,a=c++(cp a b).1 ∧ b=c++(cp a b).2 ∧ ∀ x xs y ys,(cp a b).1=x::xs→(cp a b).2=y::ys→x≠y:=by
 intro a
 induction a with
 | nil => intro b; exact ⟨[],by simp [cp],by simp [cp],fun x xs y ys h=>by simp [cp] at h⟩
 | cons x xs ih =>
  intro b
  cases b with
  | nil => exact ⟨[],by simp [cp],by simp [cp],fun x xs y ys _ h=>by simp [cp] at h⟩
  | cons y ys =>
   by_cases h:x=y
   · subst h
     obtain ⟨c,h1,h2,h3⟩:=ih ys
     have e:cp (x::xs) (x::ys)=cp xs ys:=by simp [cp]
     rw [e]
     exact ⟨x::c,by rw [List.cons_append,← h1],by rw [List.cons_append,← h2],h3⟩
   · have e:cp (x::xs) (y::ys)=(x::xs,y::ys):=by simp [cp,h]
     rw [e]
     exact ⟨[],rfl,rfl,fun a a2 b b2 h1 h2=>by injection h1 with h1 _; injection h2 with h2 _; subst h1 h2; exact h⟩
theorem cp_swap:∀ (a b:List Int),cp b a=((cp a b).2,(cp a b).1):=by
 intro a
 induction a with
 | nil => intro b; cases b <;> simp [cp]
 | cons x xs ih =>
  intro b
  cases b with
  | nil => simp [cp]
  | cons y ys =>
   by_cases h:x=y
   · subst h; simp [cp,ih]
   · have h':¬y=x:=fun q=>h q.symm
     simp [cp,h,h']
theorem path_back (es:List Ed) (m:PM) (a b:Int):pathF es m b a=(pathF es m a b).reverse:=by
 unfold pathF
 rw [cp_swap (climb es m a).reverse]
 simp
/-- the vertices of the path -/
def pvF (es:List Ed) (m:PM) (a b:Int) (i:Nat):Int:=
 let c:=cp (climb es m a).reverse (climb es m b).reverse
 if i≤c.1.length then anc es m i a else anc es m (c.1.length+c.2.length-i) b
structure Fork (es:List Ed) (m:PM) (a b:Int) (x y c:List Int):Prop where
 cx:climb es m a=x.reverse++c.reverse
 cy:climb es m b=y.reverse++c.reverse
 ne:∀ p ps q qs,x=p::ps→y=q::qs→p≠q
theorem fork {es:List Ed} {m:PM} (a b:Int):∃ c,Fork es m a b (cp (climb es m a).reverse (climb es m b).reverse).1 (cp (climb es m a).reverse (climb es m b).reverse).2 c:=by
 obtain ⟨c,h1,h2,h3⟩:=cp_spec (climb es m a).reverse (climb es m b).reverse
 exact ⟨c,by rw [← List.reverse_append,← h1,List.reverse_reverse],by rw [← List.reverse_append,← h2,List.reverse_reverse],h3⟩
theorem fork_meet {es:List Ed} {V:List Int} {m:PM} (G:GrOk es V) (M:Gd es V m) {a b:Int} (ha:a∈V) (hb:b∈V) (hr:(gp m a).root=(gp m b).root) {x y c:List Int} (F:Fork es m a b x y c):
  x.length≤(gp m a).depth.toNat ∧ y.length≤(gp m b).depth.toNat ∧ anc es m x.length a=anc es m y.length b:=by
 have l1:=climb_len G M ha
 have l2:=climb_len G M hb
 rw [F.cx] at l1; rw [F.cy] at l2
 simp at l1 l2
 obtain ⟨h1,h2,h3,h4⟩:=anc_ok G M ha (j:=x.length) (by omega)
 obtain ⟨k1,k2,k3,k4⟩:=anc_ok G M hb (j:=y.length) (by omega)
 refine ⟨by omega,by omega,climb_inj G M h1 k1 (by rw [h2,k2,hr]) ?_⟩
 rw [h4,k4,F.cx,F.cy]
 rw [List.drop_left' (by simp),List.drop_left' (by simp)]
/-- no vertex lies on both branches but the one where they meet -/
theorem fork_apart {es:List Ed} {V:List Int} {m:PM} (G:GrOk es V) (M:Gd es V m) {a b:Int} (ha:a∈V) (hb:b∈V) {x y c:List Int} (F:Fork es m a b x y c) {i j:Nat} (hi:i≤x.length) (hj:j<y.length) (he:anc es m i a=anc es m j b):False:=by
 have l1:=climb_len G M ha
 have l2:=climb_len G M hb
 rw [F.cx] at l1; rw [F.cy] at l2
 simp at l1 l2
 obtain ⟨h1,h2,h3,h4⟩:=anc_ok G M ha (j:=i) (by omega)
 obtain ⟨k1,k2,k3,k4⟩:=anc_ok G M hb (j:=j) (by omega)
 rw [he,k4,F.cx,F.cy] at h4
 have h5:=congrArg List.length h4
 simp at h5
 have h6:=congrArg List.reverse h4
 rw [List.reverse_drop,List.reverse_drop] at h6
 simp only [List.reverse_append,List.reverse_reverse,List.length_append,List.length_reverse] at h6
 have hx:0<x.length:=by omega
 cases x with
 | nil => simp at hx
 | cons p ps =>
  cases y with
  | nil => simp at hj
  | cons q qs =>
   refine F.ne p ps q qs rfl rfl ?_
   have h7:=congrArg (fun l=>l[c.length]?) h6
   simp only [List.getElem?_take,List.length_cons] at h7
   simp only [List.length_cons] at hi hj hx h5
   rw [if_pos (by omega),if_pos (by omega)] at h7
   simp at h7
   exact h7.symm
theorem anc_apart {es:List Ed} {V:List Int} {m:PM} (G:GrOk es V) (M:Gd es V m) {a:Int} (ha:a∈V) {i j:Nat} (hi:i≤(gp m a).depth.toNat) (hj:j≤(gp m a).depth.toNat) (he:anc es m i a=anc es m j a):i=j:=by
 have h1:=(anc_ok G M ha hi).2.2.1
 have h2:=(anc_ok G M ha hj).2.2.1
 rw [he,h2] at h1; omega
/-- an edge of the way up -/
theorem climb_at {es:List Ed} {V:List Int} {m:PM} (G:GrOk es V) (M:Gd es V m) {a:Int} (ha:a∈V) {j:Nat} (hj:j<(gp m a).depth.toNat):∃ e∈atF es (anc es m j a),(climb es m a)[j]?=some e.id ∧ otherI e (anc es m j a)=anc es m (j+1) a:=by
 obtain ⟨h1,h2,h3,h4⟩:=anc_ok G M ha (j:=j) (by omega)
 obtain ⟨e,a1,a2,a3,_⟩:=par_ok G M h1 (by omega)
 refine ⟨e,a1,?_,by rw [anc_succ,a3]⟩
 have h5:=climb_cons G M h1 (by omega)
 rw [h4] at h5
 have h6:=congrArg List.head? h5
 rw [List.head?_drop] at h6
 rw [h6,a2]; rfl
structure Walk (es:List Ed) (V:List Int) (l:List Int) (pv:Nat→Int) (a b:Int):Prop where
 zero:pv 0=a
 last:pv l.length=b
 mem:∀ i,i≤l.length→pv i∈V
 step:∀ i x,l[i]?=some x→∃ e∈atF es (pv i),e.id=x ∧ otherI e (pv i)=pv (i+1)
 inj:∀ i j,i≤l.length→j≤l.length→pv i=pv j→i=j
theorem path_walk {es:List Ed} {V:List Int} {m:PM} (G:GrOk es V) (M:Gd es V m) {a b:Int} (ha:a∈V) (hb:b∈V) (hr:(gp m a).root=(gp m b).root):Walk es V (pathF es m a b) (pvF es m a b) a b:=by
 obtain ⟨c,F⟩:=fork (es:=es) (m:=m) a b
 unfold pathF pvF
 generalize cp (climb es m a).reverse (climb es m b).reverse=xy at *
 obtain ⟨x,y⟩:=xy
 simp only at F ⊢
 obtain ⟨f1,f2,f3⟩:=fork_meet G M ha hb hr F
 have hlen:(x.reverse++y).length=x.length+y.length:=by simp
 -- both readings agree where they meet
 have pv2:∀ i,x.length≤i→(if i≤x.length then anc es m i a else anc es m (x.length+y.length-i) b)=anc es m (x.length+y.length-i) b:=fun i hi=>by
  by_cases h:i≤x.length
  · have:i=x.length:=by omega
    subst this; rw [if_pos h,f3]; congr 1; omega
  · rw [if_neg h]
 refine ⟨by rw [if_pos (by omega)]; rfl,?_,fun i hi=>?_,fun i z hz=>?_,fun i j hi hj h=>?_⟩
 · rw [pv2 _ (by omega),hlen,Nat.sub_self]; rfl
 · rw [hlen] at hi
   split
   · exact (anc_ok G M ha (by omega)).1
   · exact (anc_ok G M hb (by omega)).1
 · have hi:=(List.getElem?_eq_some_iff.1 hz).1
   rw [hlen] at hi
   by_cases h:i<x.length
   · rw [if_pos (by omega),if_pos (by omega)]
     obtain ⟨e,e1,e2,e3⟩:=climb_at G M ha (j:=i) (by omega)
     refine ⟨e,e1,?_,e3⟩
     rw [F.cx,List.getElem?_append_left (by simpa using h)] at e2
     rw [List.getElem?_append_left (by simpa using h)] at hz
     rw [hz] at e2; exact (Option.some.inj e2).symm
   · rw [pv2 i (by omega),pv2 (i+1) (by omega)]
     obtain ⟨k,hk⟩:∃ k,x.length+y.length-i=k+1:=⟨x.length+y.length-i-1,by omega⟩
     have hk':x.length+y.length-(i+1)=k:=by omega
     rw [hk,hk']
     obtain ⟨e,e1,e2,e3⟩:=climb_at G M hb (j:=k) (by omega)
     have hb2:=other_back (mem_atF.1 e1).2
     refine ⟨e,by rw [← e3]; exact atF_back e1,?_,by rw [← e3]; exact hb2.1⟩
     rw [F.cy,List.getElem?_append_left (by simp; omega),List.getElem?_reverse (by omega)] at e2
     rw [List.getElem?_append_right (by simp; omega)] at hz
     simp only [List.length_reverse] at hz
     rw [show y.length-1-k=i-x.length by omega,hz] at e2
     exact (Option.some.inj e2).symm
 · rw [hlen] at hi hj
   by_cases h1:i≤x.length
   · rw [if_pos h1] at h
     by_cases h2:j≤x.length
     · rw [if_pos h2] at h; exact anc_apart G M ha (by omega) (by omega) h
     · rw [if_neg h2] at h; exact (fork_apart G M ha hb F h1 (by omega) h).elim
   · rw [if_neg h1] at h
     by_cases h2:j≤x.length
     · rw [if_pos h2] at h; exact (fork_apart G M ha hb F h2 (by omega) h.symm).elim
     · rw [if_neg h2] at h; have:=anc_apart G M hb (by omega) (by omega) h; omega
theorem nodup_len:∀ {l k:List Int},l.Nodup→(∀ x∈l,x∈k)→l.length≤k.length:=by
 intro l
 induction l with
 | nil => intro k _ _; simp
 | cons a t ih =>
  intro k hd h
  obtain ⟨h1,h2⟩:=List.nodup_cons.1 hd
  have h3:=ih (k:=k.erase a) h2 (fun x hx=>(List.mem_erase_of_ne (fun e=>h1 (by rw [← e]; exact hx))).2 (h x (by simp [hx])))
  have h4:=List.length_erase_of_mem (h a (by simp))
  have h5:=List.length_pos_of_mem (h a (by simp))
  simp only [List.length_cons]; omega
def walkF (es:List Ed):Int→List Int→Option Int
 | a,[]=>some a
 | a,x::l=>if (stepF es a x).2=true then walkF es (stepF es a x).1 l else none
def ckPath (es:List Ed) (V:List Int) (a b:Int) (l:List Int):Bool:=decide (l.length≤40) && decide (a∈V) && decide (b∈V) && decide (walkF es a l=some b)
def ascI2:List Int→Bool
 | a::b::t=>decide (a<b) && ascI2 (b::t)
 | _=>true
def leavesF (side:List Int) (e:Ed):Bool:=decide (e.src∈side)!=decide (e.dst∈side)
def ckSide (es:List Ed) (V:List Int) (a b:Int) (side:List Int):Bool:=
 decide (a∈V) && decide (b∈V) && side.all (fun x=>decide (x∈V)) && ascI2 side && decide (a∈side) && !decide (b∈side) && !es.any (leavesF side)
def sideF (m:PM) (V:List Int) (a:Int):List Int:=V.filter fun v=>decide ((gp m v).root=(gp m a).root)
theorem step_some {es:List Ed} {a x:Int} (h:(stepF es a x).2=true):∃ e∈atF es a,e.id=x ∧ stepF es a x=(otherI e a,true):=by
 unfold stepF at h ⊢
 cases hf:(atF es a).find? (fun e=>e.id==x) with
 | none => rw [hf] at h; simp at h
 | some e => exact ⟨e,List.mem_of_find?_eq_some hf,by simpa using List.find?_some hf,rfl⟩
theorem walk_root {es:List Ed} {V:List Int} {m:PM} (G:GrOk es V) (F:∀ v∈V,∀ e∈atF es v,(gp m (otherI e v)).root=(gp m v).root):∀ (l:List Int) {a b:Int},a∈V→walkF es a l=some b→b∈V ∧ (gp m b).root=(gp m a).root:=by
 intro l
 induction l with
 | nil => intro a b ha h; simp only [walkF,Option.some.injEq] at h; subst h; exact ⟨ha,rfl⟩
 | cons x l ih =>
  intro a b ha h
  unfold walkF at h
  split at h
  · next hs =>
    obtain ⟨e,h1,h2,h3⟩:=step_some hs
    rw [h3] at h
    obtain ⟨k1,k2⟩:=ih (other_mem G h1) h
    exact ⟨k1,k2.trans (F a ha e h1)⟩
  · cases h
theorem walk_of {es:List Ed} {V:List Int} (G:GrOk es V):∀ (l:List Int) {pv:Nat→Int} {a b:Int},Walk es V l pv a b→walkF es a l=some b:=by
 intro l
 induction l with
 | nil => intro pv a b W; have h1:=W.zero; have h2:=W.last; simp only [List.length_nil] at h2; rw [h1] at h2; rw [h2]; rfl
 | cons x l ih =>
  intro pv a b W
  obtain ⟨e,h1,h2,h3⟩:=W.step 0 x (by simp)
  rw [W.zero] at h1 h3
  have h4:=step_of (V:=V) G h1
  rw [h2] at h4
  unfold walkF
  rw [h4,if_pos rfl]
  refine ih (pv:=fun i=>pv (i+1)) ⟨h3.symm,W.last,fun i hi=>W.mem _ (by simp; omega),fun i y hy=>W.step (i+1) y (by simpa using hy),fun i j hi hj h=>by have:=W.inj (i+1) (j+1) (by simp; omega) (by simp; omega) h; omega⟩
theorem walk_len {es:List Ed} {V:List Int} {l:List Int} {pv:Nat→Int} {a b:Int} (W:Walk es V l pv a b):l.length<V.length:=by
 have h1:((List.range (l.length+1)).map pv).Nodup:=by
  refine List.pairwise_map.2 (List.nodup_range.imp_of_mem fun {i j} hi hj hne he=>hne ?_)
  rw [List.mem_range] at hi hj
  exact W.inj i j (by omega) (by omega) he
 have h2:((List.range (l.length+1)).map pv).length≤V.length:=by
  refine nodup_len h1 (fun x hx=>?_)
  obtain ⟨i,hi,rfl⟩:=List.mem_map.1 hx
  rw [List.mem_range] at hi
  exact W.mem i (by omega)
 simp at h2; omega
theorem path_ok {es:List Ed} {V:List Int} {m:PM} (G:GrOk es V) (M:Gd es V m) (hV:V.length≤24) {a b:Int} (ha:a∈V) (hb:b∈V) (hr:(gp m a).root=(gp m b).root):ckPath es V a b (pathF es m a b)=true:=by
 have W:=path_walk G M ha hb hr
 have h1:=walk_len W
 have h2:=walk_of G _ W
 simp [ckPath,ha,hb,h2]; omega
theorem path_not {es:List Ed} {V:List Int} {m:PM} (G:GrOk es V) (F:∀ v∈V,∀ e∈atF es v,(gp m (otherI e v)).root=(gp m v).root) {a b:Int} {l:List Int} (h:ckPath es V a b l=true):(gp m a).root=(gp m b).root:=by
 simp only [ckPath,Bool.and_eq_true,decide_eq_true_eq] at h
 exact (walk_root G F l h.1.1.2 h.2).2.symm
theorem root_iff {es:List Ed} {V:List Int} {m:PM} (G:GrOk es V) (M:Gd es V m) {k:Int} (hk:k∈V):(gp m k).root=k↔(gp m k).depth=0:=by
 constructor
 · intro h
   refine Classical.byContradiction fun h0=>?_
   have h1:=M.lo k
   obtain ⟨a1,a2,a3,_⟩:=anc_ok G M hk (j:=(gp m k).depth.toNat) (Nat.le_refl _)
   have h2:=(M.rt _ a1 (by omega)).1
   rw [a2,h] at h2
   rw [← h2] at a3; omega
 · exact fun h=>(M.rt k hk h).1
theorem side_closed {es:List Ed} {V:List Int} {m:PM} (G:GrOk es V) (F:∀ v∈V,∀ e∈atF es v,(gp m (otherI e v)).root=(gp m v).root) {a:Int} {e:Ed} (he:e∈es):leavesF (sideF m V a) e=false:=by
 obtain ⟨h1,h2⟩:=G.ends e he
 have h3:=F e.src h1 e (mem_atF.2 ⟨he,.inl rfl⟩)
 have h4:otherI e e.src=e.dst:=by simp [otherI]
 rw [h4] at h3
 simp [leavesF,sideF,h1,h2,h3]
theorem side_walk {es:List Ed} {side:List Int} (hs:∀ e∈es,leavesF side e=false):∀ (l:List Int) {a b:Int},a∈side→walkF es a l=some b→b∈side:=by
 intro l
 induction l with
 | nil => intro a b ha h; simp only [walkF,Option.some.injEq] at h; subst h; exact ha
 | cons x l ih =>
  intro a b ha h
  unfold walkF at h
  split at h
  · next hst =>
    obtain ⟨e,h1,h2,h3⟩:=step_some hst
    rw [h3] at h
    refine ih ?_ h
    obtain ⟨h4,h5⟩:=mem_atF.1 h1
    have h6:=hs e h4
    simp only [leavesF,bne_eq_false_iff_eq,decide_eq_decide] at h6
    unfold otherI
    rcases h5 with h5|h5
    · subst h5; rw [if_pos rfl]; exact h6.1 ha
    · by_cases h7:e.src=a
      · subst h7; rw [if_pos rfl]; exact h6.1 ha
      · subst h5; rw [if_neg h7,if_pos rfl]; exact h6.2 ha
  · cases h
theorem asc_of_pairwise:∀ (l:List Int),l.Pairwise (·<·)→ascI2 l=true:=by
 intro l
 induction l with
 | nil => intro _; rfl
 | cons a t ih =>
  intro h
  obtain ⟨h1,h2⟩:=List.pairwise_cons.1 h
  cases t with
  | nil => rfl
  | cons b t => simp only [ascI2,Bool.and_eq_true,decide_eq_true_eq]; exact ⟨h1 b (by simp),ih h2⟩
theorem side_iff {es:List Ed} {V:List Int} {m:PM} (G:GrOk es V) (F:∀ v∈V,∀ e∈atF es v,(gp m (otherI e v)).root=(gp m v).root) (hA:V.Pairwise (·<·)) {a b:Int} (ha:a∈V) (hb:b∈V):ckSide es V a b (sideF m V a)=!decide ((gp m a).root=(gp m b).root):=by
 have h1:(sideF m V a).all (fun x=>decide (x∈V))=true:=by simp [sideF]; exact fun x h=>.inr h
 have h2:ascI2 (sideF m V a)=true:=asc_of_pairwise _ (hA.sublist List.filter_sublist)
 have h3:es.any (leavesF (sideF m V a))=false:=by
  rw [List.any_eq_false]; intro e he; rw [side_closed G F he]; simp
 have h4:decide (a∈sideF m V a)=true:=by simp [sideF,ha]
 have h5:decide (b∈sideF m V a)=decide ((gp m a).root=(gp m b).root):=by simp [sideF,hb,eq_comm]
 simp only [ckSide,h1,h2,h3,h4,h5,ha,hb,decide_true,Bool.true_and,Bool.not_false,Bool.and_true]
theorem side_not {es:List Ed} {V:List Int} {m:PM} (G:GrOk es V) (M:Gd es V m) {a b:Int} {side:List Int} (ha:a∈V) (hb:b∈V) (hr:(gp m a).root=(gp m b).root):ckSide es V a b side=false:=by
 refine Bool.eq_false_iff.2 fun h=>?_
 simp only [ckSide,Bool.and_eq_true,decide_eq_true_eq,Bool.not_eq_true',List.any_eq_false] at h
 obtain ⟨⟨⟨_,h1⟩,h2⟩,h3⟩:=h
 have W:=path_walk G M ha hb hr
 have:=side_walk (fun e he=>by simpa using h3 e he) _ h1 (walk_of G _ W)
 simp [this] at h2
end Go.Proofs.Ythmkmjkbfjhffaa
