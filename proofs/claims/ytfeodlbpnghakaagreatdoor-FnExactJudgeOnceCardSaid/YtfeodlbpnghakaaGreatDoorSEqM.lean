/-
  Texts that stood by themselves, laid into one.
-/
import Derived.Test.YtfeodlbpnghakaaGreatDoorWhMvM
import Derived.Test.YtfeodlbpnghakaaGreatDoorInM
/-
  Contracts of impl's WhereIs and of what it goes by. No condition but that the variable errors.errorType reads as it is laid.
-/
set_option maxRecDepth 100000
set_option maxHeartbeats 3200000
namespace Go.Proofs.YtfeodlbpnghakaaGreatDoor
open Go.RowKit
structure WB (d:Wd)(p:Int)(bw bp:Nat)(an ai af ah al ag ap aa ab:Option Addr)(cn ci cf ch cl cg cp ca cb:Nat)(w:World):Prop where
 x:w.heap[bw]? = some (.cells #[.slice an d.ns.length cn,.slice ai d.is.length ci,.slice af d.ds.length cf,.int .i64 d.pl,.slice ah d.hs.length ch,.slice al d.ls.length cl,.slice ag d.gs.length cg,.slice ap d.ps.length cp,.int .i64 d.nx,.slice aa d.ga.length ca,.slice ab d.tk.length cb] 50 (0,0))
 p:w.cell? ⟨bp,0,none⟩=some (.int .i64 p)
 pl:bp < w.heap.size
 R:WR 0 w (.slice an d.ns.length cn) (.slice ai d.is.length ci) (.slice af d.ds.length cf) (.slice ah d.hs.length ch) (.slice al d.ls.length cl) (.slice ag d.gs.length cg) (.slice ap d.ps.length cp) (.slice aa d.ga.length ca) (.slice ab d.tk.length cb) d
 e:ErrT w
theorem WB.below {d:Wd}{p:Int}{c b:Nat}{g t u i s k B n z:Option Addr}{y r q l f v o m j:Nat}{w A:World}(h:WB d p c b g t u i s k B n z y r q l f v o m j w)(a:Below w.heap.size w A):WB d p c b g t u i s k B n z y r q l f v o m j A :=
 ⟨Zae h.x a,(a.cell (p:=⟨b,0,none⟩) h.pl).trans h.p,Nat.lt_of_lt_of_le h.pl a.size,h.R.below a,h.e.below a (Nat.le_refl _)⟩
def wayT (d:Wd)(k:Nat):List ByteArray:=(d.ga.getD k []).drop ((d.ls[k]?.map Lk.got).getD 0).toNat
theorem ZeD {d:Wd}{i:Nat}{l:Lk}{a:List ByteArray}(c:d.ls[i]? = some l)(b:d.ga[i]? = some a):wayT d i=a.drop l.got.toNat:=by
 unfold wayT
 rw [c,List.getD_eq_getElem?_getD,b]
 rfl
theorem ZhN {d:Wd}{k:Nat}(h:∀ x ∈ d.ga,SmS x):∀ x ∈ wayT d k,x.size <= 1048576:=by
 intro x c
 have a:=List.mem_of_mem_drop c
 rw [List.getD_eq_getElem?_getD] at a
 cases b:d.ga[k]? with
 | none=>rw [b] at a;cases a
 | some ts=>rw [b] at a;exact (h ts (List.mem_of_getElem? b)).2 x a
def RetT (ts:List ByteArray)(e:Ending)(w:World):Prop:=∃ v,e=.returned v/\StRow w v ts
theorem Zfr {w:World}{o:Option Addr}{n f:Nat}{a:List ByteArray}(h:StRow w (.slice o n f) a)(I:a.length=n)(g k:Nat)(M:k=min g n)(X:Option Addr)(m c:Nat)(G:(f=k/\X=o) \/ (k < f/\X=Option.map (fun x=>x.add k) o))(J:m=n - k)(z:c=f - k):StRow w (.slice X m c) (a.drop g):=by
 have D:a.drop g=a.drop k:=by
  by_cases h:g <= n
  ·rw [show k=g by omega]
  ·rw [List.drop_eq_nil_of_le (show a.length <= g by omega),List.drop_eq_nil_of_le (by omega)]
 have u:(a.drop k).length=n - k:=by rw [List.length_drop,I]
 obtain ⟨E,y,e,t,A,F,d⟩:=h
 simp only [Value.slice.injEq] at e
 obtain ⟨rfl,L,rfl⟩:=e
 rw [D]
 subst J z
 have r:∀ x ∈ a.drop k,x.size <= maxLen:=fun x C=>F x (List.mem_of_mem_drop C)
 rcases G with ⟨rfl,rfl⟩ | ⟨K,rfl⟩
 ·have B:a.drop f=[]:=List.drop_eq_nil_of_le (by omega)
  rw [B]
  exact ⟨_,_,by rw [show n - f=0 by omega];rfl,⟨by simp,fun h=>by omega⟩,by simp,by simp,fun h=>absurd rfl h⟩
 ·refine ⟨_,_,by rw [u],⟨by rw [u];omega,fun h=>?_⟩,by omega,r,fun q=>?_⟩
  ·cases v:o with
   | none=>have:=t.2 v;omega
   | some ad=>rw [v] at h;cases h
  ·have l:a ≠ []:=fun e=>q (by rw [e];simp)
   obtain ⟨p,s,e,H,b⟩:=d l
   subst e
   have j:(⟨p,s,none⟩:Addr).add k=⟨p,s+k,none⟩:=by unfold Addr.add;split <;> simp_all
   refine ⟨p,s+k,by rw [Option.map_some,j],H,fun i x hi=>?_⟩
   rw [List.getElem?_drop] at hi
   rw [Nat.add_assoc]
   exact b (k+i) x hi
theorem Zgo (P vi vf vh N vg vp va vt:Value)(d:Wd)(k:Nat)(p w:World)(R:WR 0 p P vi vf vh N vg vp va vt d)(z:Below p.heap.size p w)(n:k < d.ls.length)(W:k < d.ga.length) :
  Calls Tryz.prog 99 #[.agg #[P,vi,vf,.int .i64 d.pl,vh,N,vg,vp,.int .i64 d.nx,va,vt],.int .i64 k] w fun e w'=>RetT (wayT d k) e p/\Below w.heap.size w w':=by
 have G:=R
 obtain ⟨⟨an,cn,rfl⟩,⟨X,K,rfl⟩,⟨Z,cf,rfl⟩,⟨ah,U,rfl⟩,⟨al,cl,rfl⟩,⟨T,cg,rfl⟩,⟨ap,J,rfl⟩,⟨aa,V,rfl⟩,⟨L,S,rfl⟩⟩:=R.form
 clear R
 obtain ⟨aq,ad,s,_,_,a⟩:=G.rl
 obtain ⟨ak,ac,r,_,_,c⟩:=G.ra
 simp only [Value.slice.injEq] at s r
 obtain ⟨rfl,_,rfl⟩:=s
 obtain ⟨rfl,_,rfl⟩:=r
 obtain ⟨M,Y,rfl,_,F,a⟩:=a (by intro e;rw [e] at n;simp at n)
 obtain ⟨I,O,rfl,_,C,c⟩:=c (by intro e;rw [e] at W;simp at W)
 obtain ⟨l,D⟩:∃ x,d.ls[k]? = some x:=⟨d.ls[k],List.getElem?_eq_getElem _⟩
 obtain ⟨i,o⟩:∃ x,d.ga[k]? = some x:=⟨d.ga[k],List.getElem?_eq_getElem _⟩
 obtain ⟨cs,E,H,vq,ae,A,L1,L2,_,_⟩:=a k l D
 obtain ⟨au,_,y,ua,rfl,j,_⟩:=c k i o
 obtain ⟨pq,qq,rfl⟩:=L1.small
 obtain ⟨ph,qh,rfl⟩:=L2.small
 obtain rfl:cs=(#[.int .i64 l.sent,.int .i64 l.acked,.slice pq l.q.length qq,.int .i64 l.got,.slice ph l.h.length qh]:Array Value).toList:=congrArg Array.toList A
 have Q:Hid (wayT d k=i.drop l.got.toNat):=ZeD D o
 have f:=Zap w (Obj.cells #[.slice an d.ns.length cn,.slice X d.is.length K,.slice Z d.ds.length cf,.int .i64 d.pl,.slice ah d.hs.length U,.slice (some ⟨M,Y,none⟩) d.ls.length cl,.slice T d.gs.length cg,.slice ap d.ps.length J,.int .i64 d.nx,.slice (some ⟨I,O,none⟩) d.ga.length V,.slice L d.tk.length S] 50)
 have B:=heap_alloc_new w (Obj.cells #[.slice an d.ns.length cn,.slice X d.is.length K,.slice Z d.ds.length cf,.int .i64 d.pl,.slice ah d.hs.length U,.slice (some ⟨M,Y,none⟩) d.ls.length cl,.slice T d.gs.length cg,.slice ap d.ps.length J,.int .i64 d.nx,.slice (some ⟨I,O,none⟩) d.ga.length V,.slice L d.tk.length S] 50)
 have k1:=cell_of_row _ _ 9 _ _ _ B
 have k2:=cell_of_row _ _ 5 _ _ _ B
 have HB:=z.trans (f.mono z.size)
 have k3:=ZaQ (Zaf y HB C)
 have k4:=Zaf H HB F 3 _ rfl
 rw [Nat.mul_one] at k3
 have am:(k:Int) < (d.ls.length:Int):=by omega
 have ar:(k:Int) < (d.ga.length:Int):=by omega
 obtain ⟨pa,m,rfl⟩:=j.small
 have u:i.length <= m/\(pa=none -> m=0):=by
  obtain ⟨ao,aj,e,A,_⟩:=j
  simp only [Value.slice.injEq] at e
  obtain ⟨rfl,_,rfl⟩:=e
  exact A
 have g:∀ (e:Ending) (v:Value),e=.returned v -> StRow p v (i.drop l.got.toNat) -> RetT (wayT d k) e p:=by
  intro e v he h
  rw [Q.out]
  exact ⟨v,he,h⟩
 generalize wayT d k=b at *
 clear a c D o A E y H B L1 L2 Q G
 by_cases g1:l.got < 0
 ·by_cases t:m=0
  ·subst t
   go_enter Tryz.func99,Tryz.ntmps99
   go_wp2
   go_ret
   exact ⟨g _ _ rfl (Zfr j rfl l.got.toNat 0 (by have:=u.1;omega) _ _ _ (Or.inl ⟨rfl,rfl⟩) (by have:=u.1;omega) (by omega)),f⟩
  ·have n:0 < m:=by omega
   go_enter Tryz.func99,Tryz.ntmps99
   go_wp2
   go_ret
   exact ⟨g _ _ rfl (by rw [show l.got.toNat=0 by omega];exact j),f⟩
 ·by_cases g2:(i.length:Int) < l.got
  ·by_cases t:m=i.length
   ·go_enter Tryz.func99,Tryz.ntmps99
    go_wp2
    go_ret
    exact ⟨g _ _ rfl (Zfr j rfl l.got.toNat i.length (by omega) _ _ _ (Or.inl ⟨t,rfl⟩) (by omega) (by omega)),f⟩
   ·have n:i.length < m:=by omega
    go_enter Tryz.func99,Tryz.ntmps99
    go_wp2
    go_ret
    exact ⟨g _ _ rfl (Zfr j rfl l.got.toNat i.length (by omega) _ _ _ (Or.inr ⟨n,rfl⟩) (by omega) (by omega)),f⟩
  ·have g3:l.got <= (i.length:Int):=by omega
   by_cases t:m=l.got.toNat
   ·go_enter Tryz.func99,Tryz.ntmps99
    go_wp2
    go_ret
    exact ⟨g _ _ rfl (Zfr j rfl l.got.toNat l.got.toNat (by omega) _ _ _ (Or.inl ⟨t,rfl⟩) (by omega) (by omega)),f⟩
   ·have n:l.got.toNat < m:=by omega
    go_enter Tryz.func99,Tryz.ntmps99
    go_wp2
    go_ret
    exact ⟨g _ _ rfl (Zfr j rfl l.got.toNat l.got.toNat (by omega) _ _ _ (Or.inr ⟨n,rfl⟩) (by omega) (by omega)),f⟩
def eqTs:List ByteArray -> List ByteArray -> Bool
 | [],[]=>true
 | x :: xs,y :: ys=>(x.toList == y.toList) && eqTs xs ys
 | _,_=>false
end Go.Proofs.YtfeodlbpnghakaaGreatDoor
