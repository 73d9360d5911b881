"""Tests of the package as a whole: what its files contain and import."""

import ast
import pathlib
import unittest

PACKAGE = pathlib.Path(__file__).resolve().parent.parent / "rootladder"


def files():
    return sorted(path for path in PACKAGE.rglob("*") if path.is_file() and path.suffix != ".pyc")


def outside_imports(tree):
    """The (module, name) of each import that is not from the package."""
    found = []
    for node in ast.walk(tree):
        if isinstance(node, ast.Import):
            found += [(alias.name, None) for alias in node.names]
        if isinstance(node, ast.ImportFrom) and not (node.module or "").startswith("rootladder."):
            found += [(node.module, alias.name) for alias in node.names]
    return found


class Package(unittest.TestCase):
    def test_it_holds_python_files_alone(self):
        self.assertIn(PACKAGE / "__init__.py", files())
        for path in files():
            self.assertEqual(path.suffix, ".py", path)

    def test_only_whole_number_helpers_come_from_outside(self):
        # So that no clock, no chance and no file is in reach.
        allowed = {("math", "isqrt"), ("math", "gcd")}
        for path in files():
            found = outside_imports(ast.parse(path.read_text(encoding="utf-8")))
            self.assertLessEqual(set(found), allowed, path)

    def test_no_file_is_opened_and_nothing_is_printed(self):
        barred = {"open", "print", "input", "eval", "exec", "__import__"}
        for path in files():
            tree = ast.parse(path.read_text(encoding="utf-8"))
            names = {node.id for node in ast.walk(tree) if isinstance(node, ast.Name)}
            self.assertFalse(names & barred, path)

    def test_lines_are_plain_and_short(self):
        for path in files():
            text = path.read_text(encoding="utf-8")
            self.assertTrue(all(char == "\n" or " " <= char <= "~" for char in text), path)
            self.assertLess(len(text.splitlines()), 400, path)
            self.assertLessEqual(max(len(line) for line in text.splitlines()), 120, path)


if __name__ == "__main__":
    unittest.main()
