/-
  Texts that stood by themselves, laid into one.
-/
import Derived.Test.YtanhoamdlhaaeaaGreatDoorS8RdM
import Derived.Test.YtanhoamdlhaaeaaGreatDoorSAddM
import Derived.Test.YtanhoamdlhaaeaaGreatDoorVPackM
import Derived.Test.YtanhoamdlhaaeaaGreatDoorPcM
import Derived.Test.YtanhoamdlhaaeaaGreatDoorR8aM
/-
  The contract of spec.ValueRead: the value of the bytes, or nothing. No condition but a bound on the text.
-/
set_option maxRecDepth 100000
set_option maxHeartbeats 6400000
namespace Go.Proofs.YtanhoamdlhaaeaaGreatDoor
open Go.Proofs.Tryz
open Go.RowKit
theorem Zki {l:List Int}{s:ByteArray}(a:∀ z ∈ l,0 <= z/\z <= 255):strOfNums l=s <-> l=sb s:=by
 constructor
 ·intro h
  rw [<- h,Zkh a]
 ·intro h
  rw [h,Zfk]
theorem Zlr {s:ByteArray}{a:List Nd}{j:Int}{k:Bool}(o:sP (sb s) 0 true=(a,j,k)) :
  (sOk (sb s) 0 true=false -> vrR (sb s)=none)/\(a=[] -> vrR (sb s)=none)/\(sOk (sb s) 0 true=true -> a ≠ [] -> (Zap a=true/\vpB a ((a.length:Int) - 1)=true)/\(vpR a ((a.length:Int) - 1)=s -> vrR (sb s)=some a)/\(vpR a ((a.length:Int) - 1) ≠ s -> vrR (sb s)=none)):=by
 have b:=fun c=>Zj5 (sb s) (ZjQ s) c
 rw [o] at b;refine ⟨fun h=>?_,fun h=>?_,fun h f=>?_⟩
 ·cases g:vrR (sb s) with
  | none=>rfl
  | some c=>have:=((b c).1 g).1.1;rw [h] at this;cases this
 ·cases g:vrR (sb s) with
  | none=>rfl
  | some c=>obtain ⟨⟨_,d⟩,p,_⟩:=(b c).1 g;exact absurd (d.symm.trans h) p
 ·have m:Zap a=true:=by
   unfold sOk at h;rw [o] at h;simp only [Bool.and_eq_true] at h;exact h.2
  have n:=List.length_pos_iff.2 f;have i:vpB a ((a.length:Int) - 1)=true:=by unfold vpB hasI;rw [m];simp;omega
  have l:vpR a ((a.length:Int) - 1)=strOfNums (Zcu (mvN 0 a [(a.length:Int) - 1])):=by unfold vpR;rw [if_pos i]
  refine ⟨⟨m,i⟩,fun e=>?_,fun e=>?_⟩
  ·rw [l,Zki (ZgG _)] at e
   exact (b a).2 ⟨⟨h,rfl⟩,f,e⟩
  ·cases g:vrR (sb s) with
   | none=>rfl
   | some c =>
    obtain ⟨⟨_,d⟩,_,q⟩:=(b c).1 g;have d:a=c:=d;subst d;exact absurd (by rw [l,Zki (ZgG _)];exact q) e
theorem Zhx (s:ByteArray)(w:World)(hs:s.size <= 140737488351232) :
  Calls prog 122 #[.string s] w fun e w'=>VrAns w.heap.size (sb s) e w'/\Below w.heap.size w w':=by
 have E:Below w.heap.size w (w.alloc (Obj.cells #[.slice none 0 0] 41)):=(cf _ _).alloc (ce _) _
 go_enter func122,ntmps122
 go_wp2_with (first
  | (refine Zcv _ rfl _ 9 144 5 rfl underlying9 underlying144 underlying5 s rfl ?_;intro x n g0 g1 V O))
 have U:(w.alloc (Obj.cells #[.slice none 0 0] 41)).heap.size=w.heap.size+1:=by simp
 have S:=ZcI (w:=w.alloc (Obj.cells #[.slice none 0 0] 41)) hs g0 g1 O;rw [U] at S O;have x2:=(V.block w.heap.size (by rw [U];omega) (by simp)).trans (cg w _);have Q:Below w.heap.size w n:=E.grown V E.size (fun k W=>by cases W);clear U g1 V;have N:Below n.heap.size n (n.alloc (Obj.cells #[.slice (some ⟨w.heap.size+1,0,none⟩) s.size x,.int .i64 0,.bool true] 198)):=(cf _ _).alloc (ce _) _;have K:C8 (n.alloc (Obj.cells #[.slice (some ⟨w.heap.size+1,0,none⟩) s.size x,.int .i64 0,.bool true] 198)) n.heap.size (.slice (some ⟨w.heap.size+1,0,none⟩) s.size x) 0 true:=cg _ _;have x3:=(N.block w.heap.size (by omega)).trans x2;have B:=Q.trans (N.mono Q.size);have v:=Zhq n.heap.size _ (sb s) 0 true _ (S.below N) K (by omega) (by omega)
 have s3:(n.alloc (Obj.cells #[.slice (some ⟨w.heap.size+1,0,none⟩) s.size x,.int .i64 0,.bool true] 198)).heap.size=n.heap.size+1:=by simp
 obtain ⟨p,hp⟩:∃ p,Hid (sP (sb s) 0 true=p):=⟨_,rfl⟩;obtain ⟨c,ac,k⟩:=p;obtain ⟨b,hb⟩:∃ b,Hid (sOk (sb s) 0 true=b):=⟨_,rfl⟩;have D:=Zlr hp.out;rw [hb.out] at D;rw [hp.out,hb.out] at v
 dsimp only at v
 refine v.mono ?_;rintro e i ⟨vs,rfl,P,c4,y,ah⟩;have x4:=(y.block w.heap.size (by rw [s3];omega) (by simp;omega)).trans x3;have C:Below w.heap.size w i:=B.grown y B.size (fun k W=>by simp at W;omega);have af:n.heap.size+1 <= i.heap.size:=by have:=y.size;omega
 rw [s3] at P;have ag:w.heap.size+1 < n.heap.size:=O;clear v y x3 B K N s3 E x2 Q O S;obtain ⟨d,f,rfl⟩:=Zad P;have J:Below i.heap.size i (i.alloc (Obj.cells #[.slice d c.length f] 41)):=(cf _ _).alloc (ce _) _;have A:=(J.block _ (by omega)).trans x4;have c5:=c4.below J;have o5:=Zac P J;have q:=C.trans (J.mono C.size);have y5:(i.alloc (Obj.cells #[.slice d c.length f] 41)).heap[i.heap.size]? = some (.cells #[.slice d c.length f] 41 (0,0)):=cg _ _;have T:(i.alloc (Obj.cells #[.slice d c.length f] 41)).cell? ⟨n.heap.size,2,none⟩=some (.bool b):=cd _ _ 2 _ _ _ c5;have cp:(i.alloc (Obj.cells #[.slice d c.length f] 41)).cell? ⟨i.heap.size,0,none⟩=some (.slice d c.length f):=cd _ _ 0 _ _ _ y5;cases b with
 | false =>
  have hN:=D.1 rfl;have j:Hid (vrL (sb s)=[]/\vrI (sb s)=0/\vrB (sb s)=false):=Zj6 hN;clear D hN;have r0:(i.alloc (Obj.cells #[.slice d c.length f] 41)).cell? ⟨w.heap.size,0,none⟩=some (.slice none 0 0):=cd (i.alloc (Obj.cells #[.slice d c.length f] 41)) _ 0 _ _ _ A;have rf:(i.alloc (Obj.cells #[.slice d c.length f] 41)).frozen? ⟨w.heap.size,0,none⟩=false:=cj (i.alloc (Obj.cells #[.slice d c.length f] 41)) _ 0 _ _ A;have g:=ci (i.alloc (Obj.cells #[.slice d c.length f] 41)) w.heap.size 0 _ _ (.slice none 0 0) A;have l:=q.setCell (p:=⟨w.heap.size,0,none⟩) (ce _) (.slice none 0 0);go_wp2;refine ck (ZaN rfl _ _ w.heap.size 41 _ (0,0) _ rfl g underlying41 rfl Zmf) rfl ⟨VrAns.intro (.slice none 0 0) ?_ ?_,l⟩
  ·rw [j.out.2.1,j.out.2.2];rfl
  ·rw [j.out.1];exact World.ownsRow_nil _ _ _ _
 | true =>
  by_cases u:c=[]
  ·have j:Hid (vrL (sb s)=[]/\vrI (sb s)=0/\vrB (sb s)=false):=Zj6 (D.2.1 u)
   have X:(c.length:Int)=0:=by rw [u];rfl
   clear D u;have r0:(i.alloc (Obj.cells #[.slice d c.length f] 41)).cell? ⟨w.heap.size,0,none⟩=some (.slice none 0 0):=cd (i.alloc (Obj.cells #[.slice d c.length f] 41)) _ 0 _ _ _ A;have rf:(i.alloc (Obj.cells #[.slice d c.length f] 41)).frozen? ⟨w.heap.size,0,none⟩=false:=cj (i.alloc (Obj.cells #[.slice d c.length f] 41)) _ 0 _ _ A;have g:=ci (i.alloc (Obj.cells #[.slice d c.length f] 41)) w.heap.size 0 _ _ (.slice none 0 0) A;have l:=q.setCell (p:=⟨w.heap.size,0,none⟩) (ce _) (.slice none 0 0);go_wp2;refine ck (ZaN rfl _ _ w.heap.size 41 _ (0,0) _ rfl g underlying41 rfl Zmf) rfl ⟨VrAns.intro (.slice none 0 0) ?_ ?_,l⟩
   ·rw [j.out.2.1,j.out.2.2];rfl
   ·rw [j.out.1];exact World.ownsRow_nil _ _ _ _
  ·obtain ⟨⟨t,Z⟩,m,z⟩:=D.2.2 rfl u
   have ab:=List.length_pos_iff.2 u;have aa:=Za1 t;have X:¬ (c.length:Int)=0:=by omega
   have R5:NRow (i.alloc (Obj.cells #[.slice d c.length f] 41)) (.slice d c.length f) c:=NRow.of_own o5 (by omega) (Zed (Ze8 t));have R:=Zhw _ c ((c.length:Int) - 1) _ R5;obtain ⟨M,G⟩:∃ M,Hid (vpR c ((c.length:Int) - 1)=M):=⟨_,rfl⟩;obtain ⟨tb,L⟩:∃ tb,Hid (vpB c ((c.length:Int) - 1)=tb):=⟨_,rfl⟩;rw [G.out,L.out] at R;rw [G.out] at m z;clear D G L Z;go_wp2_with fail;refine R.mono ?_;rintro e o ⟨rfl,r⟩;have H:=(bb A r);have y6:=(bb y5 r);have o6:=Zac o5 r;have I:=q.trans (r.mono q.size);clear R r q J C x4 A y5 P o5 c4 c5 T cp R5
   by_cases F:M=s
   ·have j:Hid (vrL (sb s)=c/\vrI (sb s)=(c.length:Int) - 1/\vrB (sb s)=true):=Zkj (m F)
    clear m z;have q0:o.cell? ⟨i.heap.size,0,none⟩=some (.slice d c.length f):=cd o _ 0 _ _ _ y6;have r0:o.cell? ⟨w.heap.size,0,none⟩=some (.slice none 0 0):=cd o _ 0 _ _ _ H;have rf:o.frozen? ⟨w.heap.size,0,none⟩=false:=cj o _ 0 _ _ H;have ae:i.heap.size ≠ w.heap.size:=by omega
    have g:=ci o w.heap.size 0 _ _ (.slice d c.length f) H;have l:=I.setCell (p:=⟨w.heap.size,0,none⟩) (ce _) (.slice d c.length f);have Y:=Zae (cx o6 (a:=⟨w.heap.size,0,none⟩) (by show w.heap.size < n.heap.size+1;omega) (.slice d c.length f)) (show w.heap.size <= n.heap.size+1 by omega);go_wp2_with fail
    go_region
    all_goals
     go_wp2;refine ck (ZaN rfl _ _ w.heap.size 41 _ (0,0) _ rfl g underlying41 rfl Zmf) rfl ⟨VrAns.intro (.slice d c.length f) ?_ ?_,l.drew⟩
     ·rw [j.out.2.1,j.out.2.2];rfl
     ·rw [j.out.1];exact Y
   ·have j:Hid (vrL (sb s)=[]/\vrI (sb s)=0/\vrB (sb s)=false):=Zj6 (z F)
    have ad:(M.toList == s.toList)=false:=by
     rw [<- Bool.not_eq_true,beq_iff_eq,ByteArray.toList_eq,ByteArray.toList_eq];intro h;apply F;cases M;cases s
     congr 1
     exact Array.toList_inj.1 h
    clear m z;have r0:o.cell? ⟨w.heap.size,0,none⟩=some (.slice none 0 0):=cd o _ 0 _ _ _ H;have rf:o.frozen? ⟨w.heap.size,0,none⟩=false:=cj o _ 0 _ _ H;have g:=ci o w.heap.size 0 _ _ (.slice none 0 0) H;have l:=I.setCell (p:=⟨w.heap.size,0,none⟩) (ce _) (.slice none 0 0);go_wp2;refine ck (ZaN rfl _ _ w.heap.size 41 _ (0,0) _ rfl g underlying41 rfl Zmf) rfl ⟨VrAns.intro (.slice none 0 0) ?_ ?_,l⟩
    ·rw [j.out.2.1,j.out.2.2];rfl
    ·rw [j.out.1];exact World.ownsRow_nil _ _ _ _
def pidB (i:Int):Bool:=decide (1 <= i/\i <= 1000000000)
def boxB (bx:List ByteArray):Bool:=decide (bx.length <= 20) && bx.all fun s=>vrB (sb s)
def outB (ox:List ByteArray):Bool:=decide (ox.length <= 40) && ox.all fun s=>decide (s.size <= 400)
def Zei (ns:List Nd)(is:List In)(ds:List Df)(i:Int)(xs:List Nd)(m:Mc)(bx ox:List ByteArray):Bool:=pidB i && (boxB bx && (outB ox && Zb9 ns is ds xs m))
theorem ZcN {b:List ByteArray}{f:ByteArray -> Bool}{k:Nat}{x:ByteArray}(h:∀ j y,b[j]? = some y -> j < k -> f y=true)(d:b[k]? = some x)(c:f x=true):∀ j y,b[j]? = some y -> j < k+1 -> f y=true:=fun j y a g=>by
 by_cases e:j=k
 ·subst e
  rw [d] at a;cases a;exact c
 ·exact h j y a (by omega)
theorem ZdR {a:List ByteArray}{f:ByteArray -> Bool}(h:∀ j y,a[j]? = some y -> j < a.length -> f y=true):a.all f=true:=List.all_eq_true.2 fun x c=>by
 obtain ⟨j,b,e⟩:=List.getElem_of_mem c;exact h j x (by rw [<- e];simp [b]) b
theorem ZcM {a:List ByteArray}{f:ByteArray -> Bool}{k:Nat}{x:ByteArray}(c:a[k]? = some x)(b:f x=false):a.all f=false:=by
 rw [List.all_eq_false];exact ⟨x,List.mem_of_getElem? c,by simp [b]⟩
theorem ZeM (i:Int)(w:World):Calls prog 72 #[.int .i64 i] w fun e c=>e=.returned (.bool (pidB i))/\c=w:=by
 by_cases b:1 <= i
 ·by_cases a:i <= 1000000000
  ·go_enter func72,ntmps72
   go_wp2;go_ret;exact ⟨retB (by simp [pidB,b,a]),rfl⟩
  ·go_enter func72,ntmps72
   go_wp2;go_ret;exact ⟨retB (by simp [pidB,a]),rfl⟩
 ·go_enter func72,ntmps72
  go_wp2;go_ret;exact ⟨retB (by unfold pidB;rw [decide_eq_false_iff_not.2 (by omega)]),rfl⟩
theorem ZfB (v:Value)(a:List ByteArray)(w:World)(R:StRow w v a)(M:∀ x ∈ a,x.size <= 140737488351232)(K:ErrT w) :
  Calls prog 132 #[v] w fun e O=>e=.returned (.bool (boxB a))/\Below w.heap.size w O:=by
 obtain ⟨S,J,rfl,H,U,N,b⟩:=R
 by_cases I:a.length <= 20
 rotate_left
 ·have L:20 < (a.length:Int):=by omega
  have d:Hid (boxB a=false):=by show boxB a=false;simp [boxB,I]
  go_enter func132,ntmps132
  go_wp2;go_ret;exact ⟨retB d.out.symm,cf _ _⟩
 have G:Hid (boxB a=a.all fun s=>vrB (sb s)):=by show boxB a=a.all fun s=>vrB (sb s);simp [boxB,I]
 go_enter func132,ntmps132
 go_wp2
 go_loopw [13] (fun i wr=>∃ k:Nat,k <= a.length/\i=.int .i64 k/\Hid (∀ j x,a[j]? = some x -> j < k -> vrB (sb x)=true)/\Below w.heap.size w wr) (fun i _=>a.length - (intOf i).toNat)
 case atStart=>exact ⟨0,by omega,rfl,fun j x _ h=>by omega,cf _ _⟩
 case round =>
  obtain ⟨k,T,rfl,A,t⟩:=hrel
  by_cases y:k < a.length
  ·obtain ⟨g,o,rfl,F,b⟩:=b (by intro e;subst e;simp at y)
   obtain ⟨x,l⟩:∃ x,a[k]? = some x:=⟨a[k],by simp [y]⟩;have c0:=(t.cell (p:=⟨g,o+k,none⟩) F).trans (b k x l);have B:=Zg5 x wr (M x (List.mem_of_getElem? l)) (K.below t (ce _));unfold VrAns at B;have Q:Hid (a[k]? = some x):=l;have d:=fun h=>ZcM (f:=fun s=>vrB (sb s)) l h
   have c:=fun h=>ZcN (f:=fun s=>vrB (sb s)) A.out l h
   clear b l;generalize vrB (sb x)=bv at B d c;go_wp2_with fail;refine B.mono ?_;rintro e P ⟨⟨V,rfl,z⟩,u⟩;obtain ⟨E,n,rfl⟩:=Zad z;have q:=t.trans (u.mono t.size);clear B z u c0;have r:Below w.heap.size w (P.alloc (Obj.cells #[.slice E (vrL (sb x)).length n] 41)):=q.alloc q.size _;cases bv with
   | true =>
    have m:=c rfl;have C:Hid (∀ j x,a[j]? = some x -> j < k+1 -> vrB (sb x)=true):=m;clear A c m d;go_wp2
    go_roundw
    case rel=>exact ⟨k+1,by omega,by go_num,C,r⟩
    case measure=>simp [intOf];omega
   | false =>
    have D:Hid ((a.all fun s=>vrB (sb s))=false):=d rfl;clear A c d;go_wp2;go_ret;exact ⟨retB (G.out.trans D.out).symm,r⟩
  ·go_wp2
   go_ret;have e:k=a.length:=by omega
   subst e;exact ⟨retB (G.out.trans (ZdR A.out)).symm,t⟩
theorem ZfZ (v:Value)(b:List ByteArray)(w:World)(R:StRow w v b) :
  Calls prog 133 #[v] w fun e F=>e=.returned (.bool (outB b))/\Below w.heap.size w F:=by
 obtain ⟨G,D,rfl,A,I,r,a⟩:=R
 by_cases B:b.length <= 40
 rotate_left
 ·have E:40 < (b.length:Int):=by omega
  have C:Hid (outB b=false):=by show outB b=false;simp [outB,B]
  go_enter func133,ntmps133
  go_wp2;go_ret;exact ⟨retB C.out.symm,cf _ _⟩
 have u:Hid (outB b=b.all fun s=>decide (s.size <= 400)):=by show outB b=b.all fun s=>decide (s.size <= 400);simp [outB,B]
 go_enter func133,ntmps133
 go_wp2
 go_loopw [10] (fun i wr=>∃ k:Nat,k <= b.length/\i=.int .i64 k/\Hid (∀ j x,b[j]? = some x -> j < k -> decide (x.size <= 400)=true)/\Below w.heap.size w wr) (fun i _=>b.length - (intOf i).toNat)
 case atStart=>exact ⟨0,by omega,rfl,fun j x _ h=>by omega,cf _ _⟩
 case round =>
  obtain ⟨k,H,rfl,t,d⟩:=hrel
  by_cases c:k < b.length
  ·obtain ⟨g,o,rfl,n,a⟩:=a (by intro e;subst e;simp at c)
   obtain ⟨x,l⟩:∃ x,b[k]? = some x:=⟨b[k],by simp [c]⟩;have c0:=(d.cell (p:=⟨g,o+k,none⟩) n).trans (a k x l);have q:=r x (List.mem_of_getElem? l);unfold maxLen at q;have y:Hid (b[k]? = some x):=l;clear a l
   by_cases z:x.size <= 400
   ·have m:¬ 400 < (x.size:Int):=by omega
    go_wp2
    go_roundw
    case rel=>exact ⟨k+1,by omega,by go_num,ZcN (f:=fun s=>decide (s.size <= 400)) t.out y.out (by simp [z]),d⟩
    case measure=>simp [intOf];omega
   ·have m:400 < (x.size:Int):=by omega
    go_wp2;go_ret;exact ⟨retB (u.out.trans (ZcM (f:=fun s=>decide (s.size <= 400)) y.out (by simp [z]))).symm,d⟩
  ·go_wp2
   go_ret;have e:k=b.length:=by omega
   subst e;exact ⟨retB (u.out.trans (ZdR t.out)).symm,d⟩
theorem ZfN (Y Z v3 v vb vo:Value)(B:List Nd)(A:List In)(z:List Df)(i:Int)(u:List Nd)(m:Mc)(y C:List ByteArray)(w:World)(K:NRow w Y B)(L:InRow w Z A)(M:DfRow w v3 z)(R:NRow w v u)(N:StRow w vb y)(O:StRow w vo C)(hz:∀ x ∈ y,x.size <= 140737488351232)(hg:ErrT w) :
  Calls prog 107 #[.agg #[Y,Z,v3],.agg #[.int .i64 i,v,.int .i64 m.p,.int .i64 m.s,.int .i64 m.e,.int .i64 m.d,.int .i64 m.t,.int .i64 m.q,.int .i64 m.r,vb,vo]] w fun e w'=>e=.returned (.bool (Zei B A z i u m y C))/\Below w.heap.size w w':=by
 obtain ⟨E,f,rfl⟩:∃ E f,v=.slice E u.length f:=by obtain ⟨E,f,rfl,_⟩:=R;exact ⟨E,f,rfl⟩
 obtain ⟨P,U,rfl⟩:=K.small;obtain ⟨Q,V,rfl⟩:=L.small;obtain ⟨S,W,rfl⟩:=M.small;obtain ⟨ab,cb,rfl⟩:=N.small;obtain ⟨T,X,rfl⟩:=O.small;obtain ⟨g,H,J⟩:=ZaC w (Obj.cells #[.slice P B.length U,.slice Q A.length V,.slice S z.length W] 45) (Obj.cells #[.int .i64 i,.slice E u.length f,.int .i64 m.p,.int .i64 m.s,.int .i64 m.e,.int .i64 m.d,.int .i64 m.t,.int .i64 m.q,.int .i64 m.r,.slice ab y.length cb,.slice T C.length X] 68);have k:Hid (Zei B A z i u m y C=(pidB i && (boxB y && (outB C && Zb9 B A z u m)))):=rfl
 go_enter func107,ntmps107
 go_wp2_with fail;refine (ZeM _ _).mono ?_;rintro e w1 ⟨rfl,rfl⟩;generalize pidB i=b1 at k ⊢;cases b1 with
 | false =>
  go_wp2;go_ret;exact ⟨retB (by rw [k.out];rfl),g⟩
 | true =>
  go_wp2_with fail;refine (ZfB _ y _ (N.below g) hz (hg.below g (ce _))).mono ?_;rintro e w2 ⟨rfl,l⟩;have j:=g.trans (l.mono g.size);have I:=(bb H l);have D:=(bb J l);clear g H J l;generalize boxB y=b2 at k ⊢;cases b2 with
  | false =>
   go_wp2;go_ret;exact ⟨retB (by rw [k.out];rfl),j⟩
  | true =>
   have k0:w2.cell? ⟨w.heap.size+1,0+10,none⟩=some (.slice T C.length X):=cd w2 _ 10 _ _ _ D;go_wp2_with fail;refine (ZfZ _ C _ (O.below j)).mono ?_;rintro e a ⟨rfl,n⟩;have c:=j.trans (n.mono j.size);have o:=(bb I n);have b:=(bb D n);clear j I D n k0;generalize outB C=b3 at k ⊢;cases b3 with
   | false =>
    go_wp2;go_ret;exact ⟨retB (by rw [k.out];rfl),c⟩
   | true =>
    have l0:a.cell? ⟨w.heap.size,0,none⟩=some (.slice P B.length U):=cd a _ 0 _ _ _ o;have l1:a.cell? ⟨w.heap.size,0+1,none⟩=some (.slice Q A.length V):=cd a _ 1 _ _ _ o;have l2:a.cell? ⟨w.heap.size,0+2,none⟩=some (.slice S z.length W):=cd a _ 2 _ _ _ o;have k1:a.cell? ⟨w.heap.size+1,0+1,none⟩=some (.slice E u.length f):=cd a _ 1 _ _ _ b;have k2:a.cell? ⟨w.heap.size+1,0+1+1,none⟩=some (.int .i64 m.p):=cd a _ 2 _ _ _ b;have k3:a.cell? ⟨w.heap.size+1,0+1+2,none⟩=some (.int .i64 m.s):=cd a _ 3 _ _ _ b;have k4:a.cell? ⟨w.heap.size+1,0+1+3,none⟩=some (.int .i64 m.e):=cd a _ 4 _ _ _ b;have k5:a.cell? ⟨w.heap.size+1,0+1+4,none⟩=some (.int .i64 m.d):=cd a _ 5 _ _ _ b;have k6:a.cell? ⟨w.heap.size+1,0+1+5,none⟩=some (.int .i64 m.t):=cd a _ 6 _ _ _ b
    have k7:a.cell? ⟨w.heap.size+1,0+1+6,none⟩=some (.int .i64 m.q):=cd a _ 7 _ _ _ b;have k8:a.cell? ⟨w.heap.size+1,0+1+7,none⟩=some (.int .i64 m.r):=cd a _ 8 _ _ _ b;go_wp2_with fail;refine (ZfL _ _ _ _ B A z u m _ (K.below c) (L.below c) (M.below c) (R.below c)).mono ?_;rintro e w4 ⟨rfl,G⟩;have F:=c.trans (G.mono c.size);clear c o b G l0 l1 l2;generalize Zb9 B A z u m=b4 at k ⊢;cases b4 with
    | false =>
     go_wp2;go_ret;exact ⟨retB (by rw [k.out];rfl),F⟩
    | true =>
     go_wp2;go_ret;exact ⟨retB (by rw [k.out];rfl),F⟩
theorem Zkr (x:Int)(w:World):Calls prog 51 #[.int .i64 x,.int .i64 1,.int .i64 1000000000] w fun e a=>e=.returned (.bool (pidB x))/\a=w:=by
 refine (Zao x 1 1000000000 w).mono ?_;rintro e a ⟨rfl,rfl⟩;exact ⟨retB (by simp [pidB]),rfl⟩
theorem Zf9 (v1 v2 v3 v vb vo:Value)(V:List Nd)(S:List In)(N:List Df)(i:Int)(M:List Nd)(m:Mc)(a l:List ByteArray)(w:World)(R1:NRow w v1 V)(R2:InRow w v2 S)(R3:DfRow w v3 N)(R:NRow w v M)(Rb:StRow w vb a)(Ro:StRow w vo l)(hz:∀ x ∈ a,x.size <= 140737488351232) :
  Calls prog 95 #[.agg #[v1,v2,v3],.agg #[.int .i64 i,v,.int .i64 m.p,.int .i64 m.s,.int .i64 m.e,.int .i64 m.d,.int .i64 m.t,.int .i64 m.q,.int .i64 m.r,vb,vo]] w fun e w'=>e=.returned (.bool (Zei V S N i M m a l))/\Below w.heap.size w w':=by
 obtain ⟨X,B,rfl⟩:∃ X B,v=.slice X M.length B:=by obtain ⟨X,B,rfl,_⟩:=R;exact ⟨X,B,rfl⟩
 obtain ⟨a1,c1,rfl⟩:=R1.small;obtain ⟨a2,c2,rfl⟩:=R2.small;obtain ⟨a3,c3,rfl⟩:=R3.small;obtain ⟨ab,cb,rfl,ak,aw,ay,b⟩:=Rb;obtain ⟨ac,cc,rfl,al,ax,ar,c⟩:=Ro;obtain ⟨n,am,ae⟩:=ZaC w (Obj.cells #[.slice a1 V.length c1,.slice a2 S.length c2,.slice a3 N.length c3] 45) (Obj.cells #[.int .i64 i,.slice X M.length B,.int .i64 m.p,.int .i64 m.s,.int .i64 m.e,.int .i64 m.d,.int .i64 m.t,.int .i64 m.q,.int .i64 m.r,.slice ab a.length cb,.slice ac l.length cc] 68);have G:Hid (Zei V S N i M m a l=(pidB i && (boxB a && (outB l && Zb9 V S N M m)))):=rfl;have HV:Hid (boxB a=(decide (a.length <= 20) && a.all fun s=>vrB (sb s))):=rfl;have HW:Hid (outB l=(decide (l.length <= 40) && l.all fun s=>decide (s.size <= 400))):=rfl
 go_enter func95,ntmps95
 go_wp2_with fail;refine (Zkr _ _).mono ?_;rintro e w1 ⟨rfl,rfl⟩;generalize pidB i=b1 at G ⊢;cases b1 with
 | false =>
  go_wp2;go_ret;exact ⟨retB (by rw [G.out];rfl),n⟩
 | true =>
  go_wp2_with fail;refine (Zf4 _ _ _ _ V S N M m _ (R1.below n) (R2.below n) (R3.below n) (R.below n)).mono ?_;rintro e W ⟨rfl,P⟩;have y:=n.trans (P.mono n.size);have H:=(bb ae P);clear n am ae P R R1 R2 R3;generalize Zb9 V S N M m=b2 at G ⊢;cases b2 with
  | false =>
   go_wp2;go_ret;exact ⟨retB (by rw [G.out];simp),y⟩
  | true =>
   have k9:W.cell? ⟨w.heap.size+1,0+9,none⟩=some (.slice ab a.length cb):=cd W _ 9 _ _ _ H
   by_cases T:a.length <= 20
   rotate_left
   ·have au:20 < (a.length:Int):=by omega
    have K:Hid (boxB a=false):=by show boxB a=false;simp [boxB,T]
    go_wp2;go_ret;exact ⟨retB (by rw [G.out,K.out];rfl),y⟩
   have af:W.cell? ⟨w.heap.size+1,0+10,none⟩=some (.slice ac l.length cc):=cd W _ 10 _ _ _ H
   by_cases U:l.length <= 40
   rotate_left
   ·have av:40 < (l.length:Int):=by omega
    have K:Hid (outB l=false):=by show outB l=false;simp [outB,U]
    go_wp2;go_ret;exact ⟨retB (by rw [G.out,K.out];simp),y⟩
   replace HV:Hid (boxB a=a.all fun s=>vrB (sb s)):=by show boxB a=a.all fun s=>vrB (sb s);simp [boxB,T]
   replace HW:Hid (outB l=l.all fun s=>decide (s.size <= 400)):=by show outB l=l.all fun s=>decide (s.size <= 400);simp [outB,U]
   go_wp2;clear k9 af T U
   go_loopw [5] (fun i wr=>∃ k:Nat,k <= a.length/\i=.int .i64 k/\Hid (∀ j x,a[j]? = some x -> j < k -> vrB (sb x)=true)/\Below W.heap.size W wr) (fun i _=>a.length - (intOf i).toNat)
   case atStart=>exact ⟨0,by omega,rfl,fun j x _ h=>by omega,cf _ _⟩
   case round =>
    obtain ⟨k,hk,rfl,J,D⟩:=hrel;have I:=(bb H D);have k9:wr.cell? ⟨w.heap.size+1,0+9,none⟩=some (.slice ab a.length cb):=cd wr _ 9 _ _ _ I;have u:=y.trans (D.mono y.size);clear y H
    by_cases A:k < a.length
    ·obtain ⟨g,o,rfl,Q,b⟩:=b (by intro e;subst e;simp at A)
     obtain ⟨x,E⟩:∃ x,a[k]? = some x:=⟨a[k],by simp [A]⟩;have c0:=(u.cell (p:=⟨g,o+k,none⟩) Q).trans (b k x E);have HR:=Zhx x wr (hz x (List.mem_of_getElem? E));unfold VrAns at HR;have K:=fun h=>ZcM (f:=fun s=>vrB (sb s)) E h
     have F:=fun h=>ZcN (f:=fun s=>vrB (sb s)) J.out E h
     clear b E c I;generalize vrB (sb x)=bv at HR K F;go_wp2_with fail;refine HR.mono ?_;rintro e w3 ⟨⟨v3,rfl,ad⟩,C⟩;obtain ⟨Y,L,rfl⟩:=Zad ad;have aa:=D.trans ((C.trans (((cf w3.heap.size w3).alloc (ce _) (Obj.cells #[.slice Y (vrL (sb x)).length L] 41)).mono C.size)).mono D.size);have Z:=u.trans ((C.trans (((cf w3.heap.size w3).alloc (ce _) (Obj.cells #[.slice Y (vrL (sb x)).length L] 41)).mono C.size)).mono u.size);clear HR ad C c0 k9 D u;cases bv with
     | true =>
      have ag:Hid (∀ j x,a[j]? = some x -> j < k+1 -> vrB (sb x)=true):=F rfl;clear J F K Z;go_wp2
      go_roundw
      case rel=>exact ⟨k+1,by omega,by go_num,ag,aa⟩
      case measure=>simp [intOf];omega
     | false =>
      have ai:Hid ((a.all fun s=>vrB (sb s))=false):=K rfl;clear J F K aa;go_wp2;go_ret;exact ⟨retB (by rw [G.out,HV.out,ai.out];rfl),Z⟩
    ·have e:k=a.length:=by omega
     subst e;have ah:Hid (boxB a=true):=HV.out.trans (ZdR J.out);clear J HV b D A hk;go_wp2;clear k9;obtain ⟨wz,an⟩:∃ z,z=wr:=⟨_,rfl⟩;subst an
     go_loopw [9] (fun i wq=>∃ k:Nat,k <= l.length/\i=.int .i64 k/\Hid (∀ j x,l[j]? = some x -> j < k -> decide (x.size <= 400)=true)/\Below wz.heap.size wz wq) (fun i _=>l.length - (intOf i).toNat)
     case atStart=>exact ⟨0,by omega,rfl,fun j x _ h=>by omega,cf _ _⟩
     case round =>
      obtain ⟨k,hk,rfl,J,D⟩:=hrel;have ap:=(bb I D);have af:wr.cell? ⟨w.heap.size+1,0+10,none⟩=some (.slice ac l.length cc):=cd wr _ 10 _ _ _ ap;have O:=u.trans (D.mono u.size);clear u I
      by_cases A:k < l.length
      ·obtain ⟨g,o,rfl,Q,c⟩:=c (by intro e;subst e;simp at A)
       obtain ⟨x,E⟩:∃ x,l[k]? = some x:=⟨l[k],by simp [A]⟩;have c0:=(O.cell (p:=⟨g,o+k,none⟩) Q).trans (c k x E);have aq:=ar x (List.mem_of_getElem? E);unfold maxLen at aq;have HX:Hid (l[k]? = some x):=E;clear c E
       by_cases h4:x.size <= 400
       ·have aj:¬ 400 < (x.size:Int):=by omega
        go_wp2
        go_roundw
        case rel=>exact ⟨k+1,by omega,by go_num,ZcN (f:=fun s=>decide (s.size <= 400)) J.out HX.out (by simp [h4]),D⟩
        case measure=>simp [intOf];omega
       ·have aj:400 < (x.size:Int):=by omega
        go_wp2;go_ret;exact ⟨retB (by rw [G.out,HW.out,ZcM (f:=fun s=>decide (s.size <= 400)) HX.out (by simp [h4])];simp),O⟩
      ·go_wp2
       go_ret;have e:k=l.length:=by omega
       subst e;exact ⟨retB (by rw [G.out,ah.out,HW.out,ZdR J.out];rfl),O⟩
end Go.Proofs.YtanhoamdlhaaeaaGreatDoor
