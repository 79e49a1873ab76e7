/-
  Texts that stood by themselves, laid into one.
-/
import Derived.Test.YtkpfangkfknhoaaGreatDoorWhMvM
import Derived.Test.YtkpfangkfknhoaaGreatDoorInM
/-
  Contracts of impl's WhereIs and of what it goes by. No condition but that the variable errors.errorType reads as it is laid.
-/
set_option maxRecDepth 100000
set_option maxHeartbeats 3200000
namespace Go.Proofs.YtkpfangkfknhoaaGreatDoor
open Go.Proofs.Tryz
open Go.RowKit
structure WB (d:Wd)(p:Int)(bw bp:Nat)(an ai af ah al ag ap aa ab:Option Addr)(cn ci cf ch cl cg cp ca cb:Nat)(w:World):Prop where
 x:w.heap[bw]? = some (.cells #[.slice an d.ns.length cn,.slice ai d.is.length ci,.slice af d.ds.length cf,.int .i64 d.pl,.slice ah d.hs.length ch,.slice al d.ls.length cl,.slice ag d.gs.length cg,.slice ap d.ps.length cp,.int .i64 d.nx,.slice aa d.ga.length ca,.slice ab d.tk.length cb] 50 (0,0))
 p:w.cell? ⟨bp,0,none⟩=some (.int .i64 p)
 pl:bp < w.heap.size
 R:WR 0 w (.slice an d.ns.length cn) (.slice ai d.is.length ci) (.slice af d.ds.length cf) (.slice ah d.hs.length ch) (.slice al d.ls.length cl) (.slice ag d.gs.length cg) (.slice ap d.ps.length cp) (.slice aa d.ga.length ca) (.slice ab d.tk.length cb) d
 e:ErrT w
theorem WB.below {d:Wd}{p:Int}{m b:Nat}{q g c v f z u y l:Option Addr}{i r n B o k j s A:Nat}{w t:World}(h:WB d p m b q g c v f z u y l i r n B o k j s A w)(a:Below w.heap.size w t):WB d p m b q g c v f z u y l i r n B o k j s A t :=
 ⟨Zaa h.x a,(a.cell (p:=⟨b,0,none⟩) h.pl).trans h.p,cy h.pl a.size,h.R.below a,h.e.below a (ce _)⟩
def wayT (d:Wd)(k:Nat):List ByteArray:=(d.ga.getD k []).drop ((d.ls[k]?.map Lk.got).getD 0).toNat
theorem Zfi {d:Wd}{i:Nat}{l:Lk}{ts:List ByteArray}(a:d.ls[i]? = some l)(b:d.ga[i]? = some ts):wayT d i=ts.drop l.got.toNat:=by
 unfold wayT;rw [a,List.getD_eq_getElem?_getD,b];rfl
theorem ZhY {d:Wd}{k:Nat}(h:∀ x ∈ d.ga,SmS x):∀ x ∈ wayT d k,x.size <= 1048576:=by
 intro x c;have a:=List.mem_of_mem_drop c;rw [List.getD_eq_getElem?_getD] at a;cases b:d.ga[k]? with
 | none=>rw [b] at a;cases a
 | some ts=>rw [b] at a;exact (h ts (List.mem_of_getElem? b)).2 x a
def RetT (ts:List ByteArray)(e:Ending)(w:World):Prop:=∃ v,e=.returned v/\StRow w v ts
theorem ZfP {w:World}{l:Option Addr}{n d:Nat}{ts:List ByteArray}(h:StRow w (.slice l n d) ts)(F:ts.length=n)(g k:Nat)(K:k=min g n)(X:Option Addr)(m c:Nat)(J:(d=k/\X=l) \/ (k < d/\X=Option.map (fun x=>x.add k) l))(B:m=n - k)(E:c=d - k):StRow w (.slice X m c) (ts.drop g):=by
 have A:ts.drop g=ts.drop k:=by
  by_cases h:g <= n
  ·rw [show k=g by omega]
  ·rw [List.drop_eq_nil_of_le (show ts.length <= g by omega),List.drop_eq_nil_of_le (by omega)]
 have u:(ts.drop k).length=n - k:=by rw [List.length_drop,F]
 obtain ⟨I,v,e,r,C,y,b⟩:=h;simp only [Value.slice.injEq] at e;obtain ⟨rfl,L,rfl⟩:=e;rw [A];subst B E;have q:∀ x ∈ ts.drop k,x.size <= maxLen:=fun x G=>y x (List.mem_of_mem_drop G)
 rcases J with ⟨rfl,rfl⟩ | ⟨D,rfl⟩
 ·have z:ts.drop d=[]:=List.drop_eq_nil_of_le (by omega)
  rw [z];exact ⟨_,_,by rw [show n - d=0 by omega];rfl,⟨by simp,fun h=>by omega⟩,by simp,by simp,fun h=>absurd rfl h⟩
 ·refine ⟨_,_,by rw [u],⟨by rw [u];omega,fun h=>?_⟩,by omega,q,fun o=>?_⟩
  ·cases t:l with
   | none=>have:=r.2 t;omega
   | some ad=>rw [t] at h;cases h
  ·have j:ts ≠ []:=fun e=>o (by rw [e];simp)
   obtain ⟨s,p,e,H,a⟩:=b j;subst e;have f:(⟨s,p,none⟩:Addr).add k=⟨s,p+k,none⟩:=by unfold Addr.add;split <;> simp_all
   refine ⟨s,p+k,by rw [Option.map_some,f],H,fun i x hi=>?_⟩;rw [List.getElem?_drop] at hi;rw [Nat.add_assoc];exact a (k+i) x hi
theorem Zg0 (vn T L vh W M I va vt:Value)(d:Wd)(k:Nat)(o w:World)(R:WR 0 o vn T L vh W M I va vt d)(y:Below o.heap.size o w)(m:k < d.ls.length)(h2:k < d.ga.length) :
  Calls prog 96 #[.agg #[vn,T,L,.int .i64 d.pl,vh,W,M,I,.int .i64 d.nx,va,vt],.int .i64 k] w fun e w'=>RetT (wayT d k) e o/\Below w.heap.size w w':=by
 have A:=R;obtain ⟨⟨an,cn,rfl⟩,⟨U,ci,rfl⟩,⟨af,X,rfl⟩,⟨K,P,rfl⟩,⟨al,H,rfl⟩,⟨Y,cg,rfl⟩,⟨J,V,rfl⟩,⟨aa,ca,rfl⟩,⟨G,Z,rfl⟩⟩:=R.form;clear R;obtain ⟨ae,ac,t,_,_,c⟩:=A.rl;obtain ⟨aq,N,r,_,_,a⟩:=A.ra;simp only [Value.slice.injEq] at t r;obtain ⟨rfl,_,rfl⟩:=t;obtain ⟨rfl,_,rfl⟩:=r;obtain ⟨O,Q,rfl,_,D,c⟩:=c (by intro e;rw [e] at m;simp at m);obtain ⟨ga,oa,rfl,_,C,a⟩:=a (by intro e;rw [e] at h2;simp at h2);obtain ⟨l,F⟩:∃ x,d.ls[k]? = some x:=⟨d.ls[k],List.getElem?_eq_getElem _⟩;obtain ⟨ts,n⟩:∃ x,d.ga[k]? = some x:=⟨d.ga[k],List.getElem?_eq_getElem _⟩;obtain ⟨cs,E,S,vq,ad,z,L1,L2,_,_⟩:=c k l F;obtain ⟨ak,_,p,ua,rfl,j,_⟩:=a k ts n;obtain ⟨pq,qq,rfl⟩:=L1.small;obtain ⟨ph,qh,rfl⟩:=L2.small
 obtain rfl:cs=(#[.int .i64 l.sent,.int .i64 l.acked,.slice pq l.q.length qq,.int .i64 l.got,.slice ph l.h.length qh]:Array Value).toList:=congrArg Array.toList z;have ON:Hid (wayT d k=ts.drop l.got.toNat):=Zfi F n;have f:=Zap w (Obj.cells #[.slice an d.ns.length cn,.slice U d.is.length ci,.slice af d.ds.length X,.int .i64 d.pl,.slice K d.hs.length P,.slice (some ⟨O,Q,none⟩) d.ls.length H,.slice Y d.gs.length cg,.slice J d.ps.length V,.int .i64 d.nx,.slice (some ⟨ga,oa,none⟩) d.ga.length ca,.slice G d.tk.length Z] 50);have B:=co w (Obj.cells #[.slice an d.ns.length cn,.slice U d.is.length ci,.slice af d.ds.length X,.int .i64 d.pl,.slice K d.hs.length P,.slice (some ⟨O,Q,none⟩) d.ls.length H,.slice Y d.gs.length cg,.slice J d.ps.length V,.int .i64 d.nx,.slice (some ⟨ga,oa,none⟩) d.ga.length ca,.slice G d.tk.length Z] 50)
 have k1:=cd _ _ 9 _ _ _ B;have k2:=cd _ _ 5 _ _ _ B;have HB:=y.trans (f.mono y.size);have k3:=ZaT (Zaf p HB C);have k4:=Zaf S HB D 3 _ rfl;rw [Nat.mul_one] at k3;have aj:(k:Int) < (d.ls.length:Int):=by omega
 have am:(k:Int) < (d.ga.length:Int):=by omega
 obtain ⟨pa,i,rfl⟩:=j.small
 have s:ts.length <= i/\(pa=none -> i=0):=by
  obtain ⟨ao,ar,e,z,_⟩:=j;simp only [Value.slice.injEq] at e;obtain ⟨rfl,_,rfl⟩:=e;exact z
 have g:∀ (e:Ending) (v:Value),e=.returned v -> StRow o v (ts.drop l.got.toNat) -> RetT (wayT d k) e o:=by
  intro e v he h;rw [ON.out];exact ⟨v,he,h⟩
 generalize wayT d k=b at *;clear c a F n z E p S B L1 L2 ON A
 by_cases g1:l.got < 0
 ·by_cases u:i=0
  ·subst u
   go_enter func96,ntmps96
   go_wp2;go_ret;exact ⟨g _ _ rfl (ZfP j rfl l.got.toNat 0 (by have:=s.1;omega) _ _ _ (Or.inl ⟨rfl,rfl⟩) (by have:=s.1;omega) (by omega)),f⟩
  ·have m:0 < i:=by omega
   go_enter func96,ntmps96
   go_wp2;go_ret;exact ⟨g _ _ rfl (by rw [show l.got.toNat=0 by omega];exact j),f⟩
 ·by_cases g2:(ts.length:Int) < l.got
  ·by_cases u:i=ts.length
   ·go_enter func96,ntmps96
    go_wp2;go_ret;exact ⟨g _ _ rfl (ZfP j rfl l.got.toNat ts.length (by omega) _ _ _ (Or.inl ⟨u,rfl⟩) (by omega) (by omega)),f⟩
   ·have m:ts.length < i:=by omega
    go_enter func96,ntmps96
    go_wp2;go_ret;exact ⟨g _ _ rfl (ZfP j rfl l.got.toNat ts.length (by omega) _ _ _ (Or.inr ⟨m,rfl⟩) (by omega) (by omega)),f⟩
  ·have g3:l.got <= (ts.length:Int):=by omega
   by_cases u:i=l.got.toNat
   ·go_enter func96,ntmps96
    go_wp2;go_ret;exact ⟨g _ _ rfl (ZfP j rfl l.got.toNat l.got.toNat (by omega) _ _ _ (Or.inl ⟨u,rfl⟩) (by omega) (by omega)),f⟩
   ·have m:l.got.toNat < i:=by omega
    go_enter func96,ntmps96
    go_wp2;go_ret;exact ⟨g _ _ rfl (ZfP j rfl l.got.toNat l.got.toNat (by omega) _ _ _ (Or.inr ⟨m,rfl⟩) (by omega) (by omega)),f⟩
def eqTs:List ByteArray -> List ByteArray -> Bool
 | [],[]=>true
 | x :: xs,y :: ys=>(x.toList == y.toList) && eqTs xs ys
 | _,_=>false
theorem Zhp:∀ {a ys:List ByteArray},a.length ≠ ys.length -> eqTs a ys=false
 | [],[],h=>absurd rfl h
 | [],_ :: _,_=>rfl
 | _ :: _,[],_=>rfl
 | x :: a,y :: ys,h=>by
  rw [eqTs,Zhp (by simpa using h),Bool.and_false]
theorem Zjy {a ys:List ByteArray}{k:Nat}{x y:ByteArray}(b:a[k]? = some x)(c:ys[k]? = some y):eqTs (a.drop k) (ys.drop k)=((x.toList == y.toList) && eqTs (a.drop (k+1)) (ys.drop (k+1))):=by
 obtain ⟨e,rfl⟩:=List.getElem?_eq_some_iff.1 b;obtain ⟨d,rfl⟩:=List.getElem?_eq_some_iff.1 c;rw [List.drop_eq_getElem_cons e,List.drop_eq_getElem_cons d,eqTs]
theorem ZlB {a ys:List ByteArray}{k:Nat}(b:a.length <= k)(c:ys.length <= k):eqTs (a.drop k) (ys.drop k)=true:=by
 rw [List.drop_eq_nil_of_le b,List.drop_eq_nil_of_le c,eqTs]
theorem Zms (B vb:Value)(c ys:List ByteArray)(w:World)(N:StRow w B c)(M:StRow w vb ys) :
  Calls prog 54 #[B,vb] w fun e K=>e=.returned (.bool (eqTs c ys))/\Below w.heap.size w K:=by
 obtain ⟨U,T,rfl,u,F,Q,a⟩:=N;obtain ⟨R,V,rfl,s,z,_,b⟩:=M
 by_cases t:c.length=ys.length
 ·obtain ⟨n,o⟩:∃ n,c.length=n:=⟨_,rfl⟩
  have D:Hid (c.length=n):=o;have C:Hid (ys.length=n):=by unfold Hid;omega
  have J:((n:Int) != (n:Int))=false:=by simp
  rw [<- t,o];rw [o] at F;clear t o u s z
  go_enter func54,ntmps54
  go_wp2
  go_loopw [13] (fun i wr=>∃ k:Nat,k <= n/\i=.int .i64 k/\Hid (eqTs c ys=eqTs (c.drop k) (ys.drop k))/\Below w.heap.size w wr) (fun i _=>n - (intOf i).toNat)
  case atStart=>exact ⟨0,by omega,rfl,rfl,cj _ _⟩
  case round =>
   obtain ⟨k,P,rfl,l,g⟩:=hrel
   by_cases h:k < n
   ·have d:k < c.length:=by rw [D.out];exact h
    have f:k < ys.length:=by rw [C.out];exact h
    obtain ⟨L,G,rfl,r,a⟩:=a (by intro e;rw [e] at d;simp at d);obtain ⟨H,O,rfl,A,b⟩:=b (by intro e;rw [e] at f;simp at f);obtain ⟨x,v⟩:∃ x,c[k]? = some x:=⟨c[k],List.getElem?_eq_getElem _⟩;obtain ⟨y,q⟩:∃ y,ys[k]? = some y:=⟨ys[k],List.getElem?_eq_getElem _⟩;have c0:=(g.cell (p:=⟨L,G+k,none⟩) r).trans (a k x v);have S:=(g.cell (p:=⟨H,O+k,none⟩) A).trans (b k y q);have m:Hid (eqTs c ys=((x.toList == y.toList) && eqTs (c.drop (k+1)) (ys.drop (k+1)))):=by unfold Hid;rw [l.out,Zjy v q]
    clear a b v q l d f;cases e:(x.toList == y.toList) with
    | true =>
     have j:Hid (eqTs c ys=eqTs (c.drop (k+1)) (ys.drop (k+1))):=by unfold Hid;rw [m.out,e];rfl
     clear m;go_wp2
     go_quiet (fail)
     go_wp2
     go_roundw
     case rel=>exact ⟨k+1,by omega,by go_num,j,g.trans ((Ze5 _ _).mono g.size)⟩
     case measure=>simp [intOf];omega
    | false =>
     have j:Hid (eqTs c ys=false):=by unfold Hid;rw [m.out,e];rfl
     clear m;go_wp2
     go_quiet (fail)
     go_wp2;go_ret;exact ⟨retB j.out.symm,g.trans ((Ze5 _ _).mono g.size)⟩
   ·have j:Hid (eqTs c ys=true):=by unfold Hid;rw [l.out,ZlB (by rw [D.out];omega) (by rw [C.out];omega)]
    clear l a b;go_wp2;go_ret;exact ⟨retB j.out.symm,g⟩
 ·have I:Hid (eqTs c ys=false):=Zhp t
  have E:((c.length:Int) != (ys.length:Int))=true:=by simp;omega
  go_enter func54,ntmps54
  go_wp2;go_ret;exact ⟨retB I.out.symm,cj _ _⟩
end Go.Proofs.YtkpfangkfknhoaaGreatDoor
